/-
  Texts of one claim, one behind the other.
-/
import Derived.BigQuiet
import Derived.Deep.RegionWith
import Derived.LaidEql
import Derived.Laws.BytesArg
import Derived.Laws.CopyOwn
import Derived.Laws.RangeAny
import Derived.Laws.StructEq
import Derived.Laws.Tables
import Derived.Lib.OthersKept
import Derived.Lib.QuietBelow
import Derived.MakeChecks
import Derived.RowKitTokens
import Derived.Shelf.SlicesE.Kit
import Derived.Shelf.Strings.Cut
import Derived.Shelf.Strings.Prefix
import Derived.StillTail
import Derived.Stop.Asserts
import Derived.Stop.LaidErr
import Derived.Test.YtojcjpdgjohldaaGreatDoorRpA
/-
  Names that are alike; what is asked ahead by all that look for a name.
-/
namespace Go.Proofs.YtojcjpdgjohldaaGreatDoor
open Go.ChangeShapes Go.WideShapes Go.ChangeAt Go.RowKit Go.Sort
theorem lowS_size (s : ByteArray) : (lowS s).size = s.size := by
  show ((s.data.toList.map lowU).toArray).size = s.data.size
  rw [List.size_toArray, List.length_map, Array.length_toList]
set_option maxHeartbeats 1000000 in
theorem smallName_any (s : ByteArray) (w : World) (hs : s.size ≤ 1000) :
    Calls Tryz.prog 91 #[.string s] w fun e w' => e = .returned (.string (lowS s)) ∧ Below w.heap.size w w' := by
  have HC := implLower_any s w hs
  have hf := f_field_text
  generalize lowS s = q at *
  go_enter Tryz.func91, Tryz.ntmps91
  go_wp2_with fail
  refine HC.mono ?_
  rintro e w1 ⟨rfl, hb⟩
  go_wp2_with fail
  go_ret
  exact ⟨rfl, hb⟩
set_option maxHeartbeats 1000000 in
theorem l4Alike_any (s t : ByteArray) (w : World) (hs : s.size ≤ 1048576) (ht : t.size ≤ 1048576) :
    Calls Tryz.prog 119 #[.string s, .string t] w fun e w' => e = .returned (.bool (decide (lowS s = lowS t))) ∧ Below w.heap.size w w' := by
  have H1 : Hid (∀ w, Calls Tryz.prog 138 #[.string s] w fun e w' => e = .returned (.string (lowS s)) ∧ Below w.heap.size w w') := fun w => l1Lower_any s w hs
  have H2 : Hid (∀ w, Calls Tryz.prog 138 #[.string t] w fun e w' => e = .returned (.string (lowS t)) ∧ Below w.heap.size w w') := fun w => l1Lower_any t w ht
  by_cases he : lowS s = lowS t
  · have HE : Hid (decide (lowS s = lowS t) = true) := by show _ = _; simpa using he
    rw [he] at H1
    clear he
    generalize lowS t = q at *
    go_enter Tryz.func119, Tryz.ntmps119
    go_wp2_with fail
    refine (H1.out _).mono ?_
    rintro e w1 ⟨rfl, hb1⟩
    go_wp2_with fail
    refine (H2.out _).mono ?_
    rintro e w2 ⟨rfl, hb2⟩
    have hbb := hb1.trans (hb2.mono hb1.size)
    clear hb1 hb2
    go_wp2_with fail
    go_ret
    exact ⟨ret_bool HE.out.symm, hbb⟩
  · have HE : Hid (decide (lowS s = lowS t) = false) := by show _ = _; simpa using he
    have hq := hstr_ne he
    clear he
    generalize lowS t = q at *
    generalize lowS s = p at *
    go_enter Tryz.func119, Tryz.ntmps119
    go_wp2_with fail
    refine (H1.out _).mono ?_
    rintro e w1 ⟨rfl, hb1⟩
    go_wp2_with fail
    refine (H2.out _).mono ?_
    rintro e w2 ⟨rfl, hb2⟩
    have hbb := hb1.trans (hb2.mono hb1.size)
    clear hb1 hb2
    go_wp2_with fail
    go_ret
    exact ⟨ret_bool HE.out.symm, hbb⟩
set_option maxHeartbeats 1000000 in
theorem namedFault_any (w : World) (a : Option Addr) (cap : Nat) (l : List Hdr) (name : ByteArray) (hl : l.length ≤ 1048576) (hset : SetIs w) (hi : HdsIn w a l) :
    Calls Tryz.prog 134 #[.slice a l.length cap, .string name] w fun e w' => e = .returned (.int .i64 (askC l name)) ∧ Below w.heap.size w w' := by
  have HF := implHFault_any w a cap l hl hset hi
  have HS : Hid (SetIs w) := hset
  clear hi hset
  by_cases h0 : headsC l = 0
  · rw [h0] at HF
    generalize l.length = n at *
    cases hw : wordS name
    · have HE : Hid (askC l name = 5) := askC_text h0 hw
      have HW : Hid (wordS name = false) := hw
      clear h0 hw
      go_enter Tryz.func134, Tryz.ntmps134
      go_wp2_with fail
      refine HF.mono ?_
      rintro e w1 ⟨rfl, hb1⟩
      go_wp2_with fail
      refine (implIsWord_set name _ (HS.out.below hb1)).mono ?_
      rintro e w2 ⟨rfl, hb2⟩
      rw [HW.out]
      have hbb := hb1.trans (hb2.mono hb1.size)
      clear hb1 hb2
      go_wp2_with fail
      go_ret
      exact ⟨ret_int HE.out.symm, hbb⟩
    · have HE : Hid (askC l name = 0) := askC_word h0 hw
      have HW : Hid (wordS name = true) := hw
      clear h0 hw
      go_enter Tryz.func134, Tryz.ntmps134
      go_wp2_with fail
      refine HF.mono ?_
      rintro e w1 ⟨rfl, hb1⟩
      go_wp2_with fail
      refine (implIsWord_set name _ (HS.out.below hb1)).mono ?_
      rintro e w2 ⟨rfl, hb2⟩
      rw [HW.out]
      have hbb := hb1.trans (hb2.mono hb1.size)
      clear hb1 hb2
      go_wp2_with fail
      go_ret
      exact ⟨ret_int HE.out.symm, hbb⟩
  · have HE : Hid (askC l name = headsC l) := askC_bad h0
    generalize headsC l = fc at *
    generalize l.length = n at *
    go_enter Tryz.func134, Tryz.ntmps134
    go_wp2_with fail
    refine HF.mono ?_
    rintro e w1 ⟨rfl, hb1⟩
    go_wp2_with fail
    go_ret
    exact ⟨ret_int HE.out.symm, hb1⟩
set_option maxHeartbeats 1000000 in
theorem hclone_any (s : ByteArray) (w : World) (hs : s.size ≤ 1048576) :
    Calls Tryz.prog 136 #[.string s] w fun e w' => e = .returned (.string s) ∧ Below w.heap.size w w' := by
  go_enter Tryz.func136, Tryz.ntmps136
  go_wp2_with fail
  refine (Any.stringslite_Clone Tryz.laysM316 s _ (by omega)).mono ?_
  rintro e w1 ⟨rfl, hb⟩
  go_wp2
  go_ret
  exact ⟨rfl, hb⟩
theorem hdr_free {w w1 : World} {t : TypeId} (hb : Below (w.heap.size + 1) (w.alloc (.cells #[.string ⟨#[]⟩, .string ⟨#[]⟩] t)) w1) :
    w.heap.size < w1.heap.size ∧ w1.cell? ⟨w.heap.size, 0, none⟩ = some (.string ⟨#[]⟩) ∧ w1.cell? ⟨w.heap.size, 1, none⟩ = some (.string ⟨#[]⟩) ∧ w1.frozen? ⟨w.heap.size, 0, none⟩ = false ∧ w1.frozen? ⟨w.heap.size, 1, none⟩ = false ∧ Below w.heap.size w w1 := by
  have hz := hb.size
  simp only [World.size_alloc] at hz
  exact ⟨hz, by rw [hb.cell (p := ⟨w.heap.size, 0, none⟩) (Nat.lt_succ_self _)]; simp, by rw [hb.cell (p := ⟨w.heap.size, 1, none⟩) (Nat.lt_succ_self _)]; simp, by rw [hb.frozen (p := ⟨w.heap.size, 0, none⟩) (Nat.lt_succ_self _)]; simp, by rw [hb.frozen (p := ⟨w.heap.size, 1, none⟩) (Nat.lt_succ_self _)]; simp, ((Below.refl _ _).alloc (Nat.le_refl _) _).trans (hb.mono (Nat.le_succ _))⟩
set_option maxHeartbeats 1000000 in
theorem lineOf_any (n v : ByteArray) (w : World) (hn : n.size ≤ 1048576) (hv : v.size ≤ 1048576) :
    Calls Tryz.prog 167 #[.string n, .string v] w fun e w' => e = .returned (.agg #[.string n, .string v]) ∧ Below w.heap.size w w' := by
  go_enter Tryz.func167, Tryz.ntmps167
  go_wp2_with fail
  refine (hclone_any n _ hn).mono ?_
  rintro e w1 ⟨rfl, hb1⟩
  simp only [World.size_alloc] at hb1
  go_wp2_with fail
  refine (hclone_any v _ hv).mono ?_
  rintro e w2 ⟨rfl, hb2⟩
  have hz1 : w.heap.size + 1 ≤ w1.heap.size := by have := hb1.size; rwa [World.size_alloc] at this
  obtain ⟨hz2, q0, q1, f0, f1, kb⟩ := hdr_free (hb1.trans (hb2.mono hz1))
  obtain ⟨r0, r1⟩ := two_set (v0 := .string n) (v1 := .string v) q0 q1
  clear hb1 hb2 hz1
  go_wp2_with fail
  exact bodyPost_ret (v := .agg #[.string n, .string v]) (by simp [results, Tryz.results167, go_sem, r0, r1]) rfl ⟨rfl, (kb.setCell (Nat.le_refl _) _).setCell (Nat.le_refl _) _⟩
end Go.Proofs.YtojcjpdgjohldaaGreatDoor
/-
  Head lines that the call itself grows.
-/
namespace Go.Proofs.YtojcjpdgjohldaaGreatDoor
open Go.ChangeShapes Go.WideShapes Go.ChangeAt Go.RowKit
def hdrW (r : Hdr) : List Value := [.string r.name, .string r.value]
def hdrsW (l : List Hdr) : List Value := l.flatMap hdrW
theorem hdrsW_len (l : List Hdr) : (hdrsW l).length = l.length * 2 := by
  induction l with
  | nil => rfl
  | cons r l ih => simp only [hdrsW, List.flatMap_cons, List.length_append, List.length_cons] at ih ⊢; rw [ih]; simp [hdrW]; omega
theorem hdrsW_at (l : List Hdr) : ∀ (i : Nat) r, l[i]? = some r → (hdrsW l)[i * 2]? = some (.string r.name) ∧ (hdrsW l)[i * 2 + 1]? = some (.string r.value) := by
  induction l with
  | nil => intro i r hr; simp at hr
  | cons x l ih =>
    intro i r hr
    have e : hdrsW (x :: l) = .string x.name :: .string x.value :: hdrsW l := by simp [hdrsW, hdrW]
    rw [e]
    cases i with
    | zero => simp at hr; subst hr; simp
    | succ i =>
      have := ih i r (by simpa using hr)
      rw [show (i + 1) * 2 = i * 2 + 1 + 1 from by omega]
      simpa using this
/-- v, nil or not, holds the items l in a row of the call's own, from block base on. -/
def OwnH (w : World) (base : Nat) (v : Value) (l : List Hdr) : Prop := w.ownsRow base 84 2 v l.length (hdrsW l)
theorem OwnH.nil (w : World) (base : Nat) : OwnH w base (.slice none 0 0) [] := World.ownsRow_nil _ _ _ _
theorem OwnH.made0 (w : World) (base : Nat) (hb : base ≤ w.heap.size) : OwnH (w.alloc (.cells #[] 84)) base (.slice (some ⟨w.heap.size, 0, none⟩) 0 0) [] := World.ownsRow_made w #[] 0 hb (by unfold maxLen; omega) rfl
theorem OwnH.below {w w' : World} {base : Nat} {v : Value} {l : List Hdr} (h : OwnH w base v l) (hb : Below w.heap.size w w') : OwnH w' base v l := by
  obtain ⟨h1, h2⟩ := h
  refine ⟨h1, ?_⟩
  rcases h2 with h2 | ⟨g, c, cur, e, hg, hh, hrest⟩
  · exact .inl h2
  · exact .inr ⟨g, c, cur, e, hg, by rw [hb.block g (Array.getElem?_eq_some_iff.1 hh).1]; exact hh, hrest⟩
theorem OwnH.lower {w : World} {b0 base : Nat} {v : Value} {l : List Hdr} (h : OwnH w base v l) (hb : b0 ≤ base) : OwnH w b0 v l := by
  obtain ⟨h1, h2⟩ := h
  refine ⟨h1, ?_⟩
  rcases h2 with h2 | ⟨g, c, cur, e, hg, hrest⟩
  · exact .inl h2
  · exact .inr ⟨g, c, cur, e, by omega, hrest⟩
theorem OwnH.at {w : World} {base : Nat} {v : Value} {l : List Hdr} (h : OwnH w base v l) : ∃ a c, v = .slice a l.length c ∧ HdsIn w a l := by
  have h0 := h
  obtain ⟨_, h1 | ⟨g, c, cur, rfl, _⟩⟩ := h
  · have e : l = [] := List.eq_nil_of_length_eq_zero h1.2
    exact ⟨none, 0, by rw [h1.1, e]; rfl, .inl e⟩
  · refine ⟨_, c, rfl, .inr ⟨g, 0, rfl, fun i r hr => ?_⟩⟩
    have hi := (List.getElem?_eq_some_iff.1 hr).1
    obtain ⟨a1, a3⟩ := hdrsW_at l i r hr
    have c1 := World.ownsRow.cellAt h0 (i * 2) (by omega)
    have c3 := World.ownsRow.cellAt h0 (i * 2 + 1) (by omega)
    exact ⟨by rw [Nat.zero_add, c1, a1], by rw [Nat.zero_add, c3, a3]⟩
theorem own_geH {w : World} {base : Nat} {e : TypeId} {size : Nat} {v : Value} {n : Nat} {xs : List Value} (h : w.ownsRow base e size v n xs) (q : Nat) (hq : v.ownBlock = some q) : base ≤ q := by
  obtain ⟨_, h | ⟨g, c, cur, rfl, hg, _⟩⟩ := h
  · rw [h.1] at hq; cases hq
  · simp only [Value.ownBlock, Option.some.injEq] at hq; omega
theorem own_apartH {w : World} {base base' : Nat} {v pv : Value} {l : List Hdr} {L : List ByteArray} (hp : OwnS w base' pv L) (hv : OwnH w base v l) : pv.ownBlock = none ∨ pv.ownBlock ≠ v.ownBlock := by
  obtain ⟨_, hp | ⟨g, c, cur, rfl, _, hh, _⟩⟩ := hp
  · left; rw [hp.1]; rfl
  · right
    obtain ⟨_, hv | ⟨g2, c2, cur2, rfl, _, hh2, _⟩⟩ := hv
    · rw [hv.1]; simp [Value.ownBlock]
    · simp only [Value.ownBlock, ne_eq, Option.some.injEq]
      rintro rfl
      rw [hh] at hh2
      simp at hh2
theorem wpList_append_hdr {ops : Array Oper} {rest : List Oper} {o : Oper} {a : Act} {Q : Exit → Act → World → Prop} (w : World) (hgd : o.guard = none) (s x : Operand)
    (ho : o.op = .call { callee := .builtin .append, args := #[s, x], argTypes := #[24, 24] }) (base : Nat) (v : Value) (l : List Hdr) (n : ByteArray) (z : ByteArray)
    (hs : a.eval s = v) (hx : a.eval x = .slice (some ⟨w.heap.size, 0, none⟩) 1 1) (hown : OwnH w base v l) (hl : l.length ≤ 1000000) (hbase : base ≤ w.heap.size)
    (h : ∀ v' w', OwnH w' base v' (l ++ [⟨n, z⟩]) → Below base w w' → w.heap.size ≤ w'.heap.size → (∀ base' pv L, OwnS w base' pv L → OwnS w' base' pv L) → wpList Tryz.prog ops Q rest (a.put o.dst v') w') :
    wpList Tryz.prog ops Q (o :: rest) a (w.alloc (.cells #[.string n, .string z] 84)) := by
  obtain ⟨i0, hi, hz0, hz1, hz2⟩ := info_parts infoHeader
  refine wpList_append_own _ hgd s x 24 ho base 84 i0 (.agg #[.string ⟨#[]⟩, .string ⟨#[]⟩]) 2 32 Tryz.underlying24 hi hz0 hz1 hz2 rfl (by decide) v l.length (hdrsW l) hs (World.ownsRow.alloc hown _) ⟨w.heap.size, 0, none⟩ 1 1 [.string n, .string z] hx rfl ?_ ?_ ?_ ?_ ?_ ?_
  · intro j u hj
    match j, hj with
    | 0, hj => simp at hj; subst hj; simp [Addr.add]
    | 1, hj => simp at hj; subst hj; simp [Addr.add]
  · intro u hu; simp at hu; rcases hu with rfl | rfl <;> rfl
  · unfold maxLen; omega
  · omega
  · simp; omega
  · intro v' w' h1 h2 h3
    have e : hdrsW (l ++ [⟨n, z⟩]) = hdrsW l ++ [.string n, .string z] := by simp [hdrsW, hdrW]
    refine h v' w' (by unfold OwnH; rw [e, List.length_append]; exact h1) ?_ ?_ ?_
    · exact ((Below.refl base w).alloc hbase _).grown h2 (by simp; omega) (fun q hq => own_geH hown q hq)
    · have hb := ((Below.refl 0 w).alloc (Nat.zero_le _) (.cells #[.string n, .string z] 84)).grown h2 (Nat.zero_le _) (fun q _ => Nat.zero_le _)
      exact hb.size
    · intro base' pv L hp
      exact World.ownsRow.kept (World.ownsRow.alloc hp _) h2 (own_apartH hp hown)
end Go.Proofs.YtojcjpdgjohldaaGreatDoor
/-
  The room of a TextResult behind a call.
-/
namespace Go.Proofs.YtojcjpdgjohldaaGreatDoor
open Go.ChangeShapes Go.WideShapes Go.ChangeAt Go.RowKit
theorem text_room {w w1 : World} (hb : Below (w.heap.size + 1) (w.alloc (.cells #[.int .i64 0, .string ⟨#[]⟩] 50)) w1) :
    w.heap.size < w1.heap.size ∧ w1.cell? ⟨w.heap.size, 0, none⟩ = some (.int .i64 0) ∧ w1.cell? ⟨w.heap.size, 1, none⟩ = some (.string ⟨#[]⟩) ∧ w1.frozen? ⟨w.heap.size, 0, none⟩ = false ∧ w1.frozen? ⟨w.heap.size, 1, none⟩ = false ∧ Below w.heap.size w w1 := by
  have hz := hb.size
  simp only [World.size_alloc] at hz
  exact ⟨hz, by rw [hb.cell (p := ⟨w.heap.size, 0, none⟩) (Nat.lt_succ_self _)]; simp, by rw [hb.cell (p := ⟨w.heap.size, 1, none⟩) (Nat.lt_succ_self _)]; simp, by rw [hb.frozen (p := ⟨w.heap.size, 0, none⟩) (Nat.lt_succ_self _)]; simp, by rw [hb.frozen (p := ⟨w.heap.size, 1, none⟩) (Nat.lt_succ_self _)]; simp, ((Below.refl _ _).alloc (Nat.le_refl _) _).trans (hb.mono (Nat.le_succ _))⟩
end Go.Proofs.YtojcjpdgjohldaaGreatDoor
/-
  What PackHeaders and its model answer.
-/
namespace Go.Proofs.YtojcjpdgjohldaaGreatDoor
open Go.ChangeShapes Go.WideShapes Go.ChangeAt Go.RowKit Go.Sort
theorem HdsIn.ok {w : World} {a : Option Addr} {l : List Hdr} (h : HdsIn w a l) {k : Nat} {r : Hdr} (hr : l[k]? = some r) : ∃ b off, a = some ⟨b, off, none⟩ ∧ HeadsAt w b off l := by
  rcases h with h | h
  · subst h; simp at hr
  · exact h
theorem line_app (o n v : ByteArray) : (o ++ n ++ ⟨#[58, 32]⟩ ++ v ++ ⟨#[13, 10]⟩ : ByteArray).data.toList = o.data.toList ++ lineL ⟨n, v⟩ := by
  simp only [happ_list, lineL, List.append_assoc]
theorem line_app2 (o n v : ByteArray) : (o ++ (n ++ ⟨#[58, 32]⟩ ++ v ++ ⟨#[13, 10]⟩) : ByteArray).data.toList = o.data.toList ++ lineL ⟨n, v⟩ := by
  simp only [happ_list, lineL, List.append_assoc]
set_option maxRecDepth 100000 in
set_option maxHeartbeats 4000000 in
/-- Lines that have no fault, told. -/
theorem l4Pack_any (w : World) (a : Option Addr) (cap : Nat) (l : List Hdr) (h20 : l.length ≤ 100) (hf : ∀ (i : Nat) r, l[i]? = some r → r.name.size ≤ 1100 ∧ r.value.size ≤ 1100) (hi : HdsIn w a l) :
    Calls Tryz.prog 99 #[.slice a l.length cap] w fun e w' => e = .returned (.string ⟨(packL l).toArray⟩) ∧ Below w.heap.size w w' := by
  have HI : Hid (HdsIn w a l) := hi
  have HF : Hid (∀ (i : Nat) r, l[i]? = some r → r.name.size ≤ 1100 ∧ r.value.size ≤ 1100) := hf
  clear hi hf
  generalize hn : l.length = n at *
  have HN : Hid (l.length = n) := hn
  clear hn
  go_enter Tryz.func99, Tryz.ntmps99
  go_wp2_with fail
  go_loopw [3, 4] (fun v i wr => ∃ (k : Nat) (o : ByteArray), k ≤ n ∧ i = .int .i64 k ∧ v = .string o ∧ o.data.toList = packL (l.take k) ∧ o.size ≤ k * 2300 ∧ Below w.heap.size w wr) (fun _ i _ => n - (intOf i).toNat)
  case atStart => exact ⟨0, ⟨#[]⟩, Nat.zero_le _, rfl, rfl, rfl, Nat.zero_le _, Below.refl _ _⟩
  case round =>
    obtain ⟨k, o, hk, rfl, rfl, ho, hos, hb⟩ := hrel
    have HO : Hid (o.data.toList = packL (l.take k)) := ho
    clear ho
    by_cases hlt : k < n
    · obtain ⟨r, hr⟩ : ∃ r, l[k]? = some r := ⟨l[k]'(by have := HN.out; omega), List.getElem?_eq_getElem _⟩
      obtain ⟨b, off, rfl, hat⟩ := HI.out.ok hr
      obtain ⟨p1, p3⟩ := (hat.keep hb) k r hr
      obtain ⟨z1, z2⟩ := HF.out k r hr
      have HJ : Hid (packL (l.take (k + 1)) = packL (l.take k) ++ lineL r) := packL_take hr
      have x1 := cell_regrown p1
      have x3 := cell_regrown p3
      have g0 : (0 : Int) ≤ k := by omega
      have gk : (k : Int) < n := by omega
      clear hr hat HI p1 p3 HF
      obtain ⟨rn, rv⟩ := r
      simp only at x1 x3 z1 z2
      have hoz : o.size ≤ 230000 := by omega
      have HT : Hid ((o ++ rn ++ ⟨#[58, 32]⟩ ++ rv ++ ⟨#[13, 10]⟩ : ByteArray).data.toList = packL (l.take (k + 1))) := by
        show _ = _
        rw [HJ.out, line_app, HO.out]
      have zz : (⟨#[58, 32]⟩ : ByteArray).size = 2 := rfl
      have zy : (⟨#[13, 10]⟩ : ByteArray).size = 2 := rfl
      have a1 := fun w => run_string_add_sum (P := Tryz.prog) (w := w) o rn (by omega)
      have s1 : (o ++ rn).size = o.size + rn.size := ByteArray.size_append
      have a2 := fun w => run_string_add_sum (P := Tryz.prog) (w := w) (o ++ rn) ⟨#[58, 32]⟩ (by omega)
      have s2 : (o ++ rn ++ ⟨#[58, 32]⟩ : ByteArray).size = o.size + rn.size + 2 := by rw [ByteArray.size_append, s1, zz]
      have a3 := fun w => run_string_add_sum (P := Tryz.prog) (w := w) (o ++ rn ++ ⟨#[58, 32]⟩) rv (by omega)
      have s3 : (o ++ rn ++ ⟨#[58, 32]⟩ ++ rv : ByteArray).size = o.size + rn.size + 2 + rv.size := by rw [ByteArray.size_append, s2]
      have a4 := fun w => run_string_add_sum (P := Tryz.prog) (w := w) (o ++ rn ++ ⟨#[58, 32]⟩ ++ rv) ⟨#[13, 10]⟩ (by omega)
      have s4 : (o ++ rn ++ ⟨#[58, 32]⟩ ++ rv ++ ⟨#[13, 10]⟩ : ByteArray).size = o.size + rn.size + 2 + rv.size + 2 := by rw [ByteArray.size_append, s3, zy]
      have HU : Hid ((o ++ rn ++ ⟨#[58, 32]⟩ ++ rv ++ ⟨#[13, 10]⟩ : ByteArray).size ≤ (k + 1) * 2300) := by
        show _ ≤ _
        rw [s4]; omega
      clear s1 s2 s3 s4 zz zy
      clear HJ HO
      generalize (o ++ rn ++ ⟨#[58, 32]⟩ ++ rv ++ ⟨#[13, 10]⟩ : ByteArray) = q4 at *
      generalize (o ++ rn ++ ⟨#[58, 32]⟩ ++ rv : ByteArray) = q3 at *
      generalize (o ++ rn ++ ⟨#[58, 32]⟩ : ByteArray) = q2 at *
      generalize (o ++ rn : ByteArray) = q1 at *
      go_wp2_with fail
      refine wp_region_quiet_below (by kernel_rfl) (by kernel_rfl) ?_
      repeat (go_big_quiet_step (fail))
      refine wpQuiet_nil ?_
      intro w2 hw2
      have hbb : Below w.heap.size w w2 := by
        obtain ⟨⟨d, os⟩, rfl⟩ := hw2
        exact hb.trans ((below_regrown wr d os).mono hb.size)
      clear x1 x3 hw2 hb a1 a2 a3 a4
      go_wp2_with fail
      go_roundw
      case rel => exact ⟨k + 1, q4, by omega, by go_num, rfl, HT.out, HU.out, hbb⟩
      case measure => simp [intOf]; omega
    · have HT : Hid ((⟨(packL l).toArray⟩ : ByteArray) = o) := by
        show _ = _
        rw [← List.take_of_length_le (l := l) (i := k) (by have := HN.out; omega), ← HO.out]
      clear HO
      go_wp2_with fail
      go_ret
      exact ⟨ret_str HT.out.symm, hb⟩
set_option maxRecDepth 100000 in
set_option maxHeartbeats 4000000 in
theorem implPack_ok (w : World) (a : Option Addr) (cap : Nat) (l : List Hdr) (h0 : headsC l = 0) (hset : SetIs w) (hi : HdsIn w a l) :
    Calls Tryz.prog 64 #[.slice a l.length cap] w fun e w' => e = .returned (.agg #[.int .i64 0, .string ⟨(packL l).toArray⟩]) ∧ Below w.heap.size w w' := by
  obtain ⟨h20, hfl⟩ := headsC_zero h0
  have HF : Hid (∀ W, Below w.heap.size w W → Calls Tryz.prog 111 #[.slice a l.length cap] W fun e w' => e = .returned (.int .i64 0) ∧ Below W.heap.size W w') := fun W hb => by
    have := implHFault_any W a cap l (by omega) (hset.below hb) (hi.keep hb)
    rw [h0] at this
    exact this
  have HI : Hid (HdsIn w a l) := hi
  have HZ : Hid (∀ (i : Nat) r, l[i]? = some r → r.name.size ≤ 64 ∧ r.value.size ≤ 200) := fun i r hr => by obtain ⟨x1, x2, _⟩ := faultH_zero (hfl i r hr); exact ⟨hword_max x1, x2⟩
  clear hi hset hfl h0
  generalize hn : l.length = n at *
  have HN : Hid (l.length = n) := hn
  clear hn
  go_enter Tryz.func64, Tryz.ntmps64
  go_wp2_with fail
  refine (HF.out _ ((Below.refl _ _).alloc (Nat.le_refl _) _)).mono ?_
  rintro e w1 ⟨rfl, hb1⟩
  rw [World.size_alloc] at hb1
  have HB1 : Hid (Below (w.heap.size + 1) (w.alloc (.cells #[.int .i64 0, .string ⟨#[]⟩] 50)) w1) := hb1
  clear hb1 HF
  go_wp2_with fail
  go_loopw [4, 15] (fun v i wr => ∃ (k : Nat) (o : ByteArray), k ≤ n ∧ i = .int .i64 k ∧ v = .string o ∧ o.data.toList = packL (l.take k) ∧ o.size ≤ k * 268 ∧ Below (w.heap.size + 1) (w.alloc (.cells #[.int .i64 0, .string ⟨#[]⟩] 50)) wr) (fun _ i _ => n - (intOf i).toNat)
  case atStart => exact ⟨0, ⟨#[]⟩, Nat.zero_le _, rfl, rfl, rfl, Nat.zero_le _, HB1.out⟩
  case round =>
    obtain ⟨k, o, hk, rfl, rfl, ho, hos, hb⟩ := hrel
    have HO : Hid (o.data.toList = packL (l.take k)) := ho
    have hz : w.heap.size + 1 ≤ wr.heap.size := by have := hb.size; rwa [World.size_alloc] at this
    clear ho HB1
    by_cases hlt : k < n
    · obtain ⟨r, hr⟩ : ∃ r, l[k]? = some r := ⟨l[k]'(by have := HN.out; omega), List.getElem?_eq_getElem _⟩
      obtain ⟨b, off, rfl, hat⟩ := HI.out.ok hr
      have hwr : Below w.heap.size w wr := ((Below.refl _ _).alloc (Nat.le_refl _) _).trans (hb.mono (Nat.le_succ _))
      obtain ⟨p1, p3⟩ := (hat.keep hwr) k r hr
      obtain ⟨z1, z2⟩ := HZ.out k r hr
      have HJ : Hid (packL (l.take (k + 1)) = packL (l.take k) ++ lineL r) := packL_take hr
      have gk : (k : Int) < n := by omega
      clear hr hat HI hwr HZ
      obtain ⟨rn, rv⟩ := r
      simp only at p1 p3 z1 z2
      have hoz : o.size ≤ 6000 := by omega
      have HT : Hid ((o ++ (rn ++ ⟨#[58, 32]⟩ ++ rv ++ ⟨#[13, 10]⟩) : ByteArray).data.toList = packL (l.take (k + 1))) := by
        show _ = _
        rw [HJ.out, line_app2, HO.out]
      have HU : Hid ((o ++ (rn ++ ⟨#[58, 32]⟩ ++ rv ++ ⟨#[13, 10]⟩) : ByteArray).size ≤ (k + 1) * 268) := by
        show _ ≤ _
        simp only [ByteArray.size_append, show (⟨#[58, 32]⟩ : ByteArray).size = 2 from rfl, show (⟨#[13, 10]⟩ : ByteArray).size = 2 from rfl]
        omega
      clear HJ HO
      go_wp2_with fail
      go_roundw
      case rel => exact ⟨k + 1, o ++ (rn ++ ⟨#[58, 32]⟩ ++ rv ++ ⟨#[13, 10]⟩), by omega, by go_num, rfl, HT.out, HU.out, hb.alloc hz _⟩
      case measure => simp [intOf]; omega
    · have HT : Hid ((⟨(packL l).toArray⟩ : ByteArray) = o) := by
        show _ = _
        rw [← List.take_of_length_le (l := l) (i := k) (by have := HN.out; omega), ← HO.out]
      obtain ⟨hz2, q0, q1, f0, f1, kb⟩ := text_room hb
      obtain ⟨r0, r1⟩ := two_set (v0 := .int .i64 0) (v1 := .string o) q0 q1
      clear HO hb
      go_wp2_with fail
      exact bodyPost_ret (v := .agg #[.int .i64 0, .string o]) (by simp [results, Tryz.results64, go_sem, r0, r1]) rfl ⟨by rw [HT.out], (kb.setCell (Nat.le_refl _) _).setCell (Nat.le_refl _) _⟩
set_option maxHeartbeats 1000000 in
theorem implPack_any (w : World) (a : Option Addr) (cap : Nat) (l : List Hdr) (hl : l.length ≤ 1048576) (hset : SetIs w) (hi : HdsIn w a l) :
    Calls Tryz.prog 64 #[.slice a l.length cap] w fun e w' => e = .returned (.agg #[.int .i64 (headsC l), .string (packT l)]) ∧ Below w.heap.size w w' := by
  by_cases h0 : headsC l = 0
  · rw [packT_ok h0, h0]
    exact implPack_ok w a cap l h0 hset hi
  · have HF : Hid (∀ W, Below w.heap.size w W → Calls Tryz.prog 111 #[.slice a l.length cap] W fun e w' => e = .returned (.int .i64 (headsC l)) ∧ Below W.heap.size W w') := fun W hb => implHFault_any W a cap l hl (hset.below hb) (hi.keep hb)
    rw [packT_bad h0]
    clear hi hset
    generalize headsC l = fc at *
    generalize l.length = n at *
    go_enter Tryz.func64, Tryz.ntmps64
    go_wp2_with fail
    refine (HF.out _ ((Below.refl _ _).alloc (Nat.le_refl _) _)).mono ?_
    rintro e w1 ⟨rfl, hb1⟩
    rw [World.size_alloc] at hb1
    obtain ⟨hz2, q0, q1, f0, f1, kb⟩ := text_room hb1
    obtain ⟨r0, r1⟩ := two_set (v0 := .int .i64 fc) (v1 := .string ⟨#[]⟩) q0 q1
    clear hb1 HF
    go_wp2_with fail
    exact bodyPost_ret (v := .agg #[.int .i64 fc, .string ⟨#[]⟩]) (by simp [results, Tryz.results64, go_sem, r0, r1]) rfl ⟨rfl, (kb.setCell (Nat.le_refl _) _).setCell (Nat.le_refl _) _⟩
end Go.Proofs.YtojcjpdgjohldaaGreatDoor
/-
  What firstPlaces and linesNamed answer.
-/
namespace Go.Proofs.YtojcjpdgjohldaaGreatDoor
open Go.ChangeShapes Go.WideShapes Go.ChangeAt Go.RowKit Go.Sort
theorem firstAt_known {l : List Hdr} {r : Hdr} {j : Nat} (h : firstAt (lowS r.name) l = some j) (x : ByteArray) : firstAt x l = firstAt x (l ++ [r]) := by
  rw [firstAt_snoc]
  cases c : firstAt x l with
  | some i => rfl
  | none =>
    by_cases e : lowS r.name = x
    · subst e; rw [h] at c; cases c
    · simp only [if_neg e]
theorem firstAt_new {l : List Hdr} {r : Hdr} (h : firstAt (lowS r.name) l = none) (x : ByteArray) : (if x = lowS r.name then some l.length else firstAt x l) = firstAt x (l ++ [r]) := by
  rw [firstAt_snoc]
  by_cases e : x = lowS r.name
  · subst e
    rw [if_pos rfl, h]
    simp
  · rw [if_neg e]
    cases c : firstAt x l with
    | some i => rfl
    | none => simp only [if_neg (fun q => e (Eq.symm q))]
set_option maxRecDepth 100000 in
set_option maxHeartbeats 4000000 in
theorem firstPlaces_any (w : World) (a : Option Addr) (cap : Nat) (l : List Hdr) (h20 : l.length ≤ 20) (hz : ∀ (i : Nat) r, l[i]? = some r → r.name.size ≤ 64) (hi : HdsIn w a l) :
    Calls Tryz.prog 135 #[.slice a l.length cap] w fun e w' => e = .returned (.map (some w.heap.size)) ∧ NamesMap w' w.heap.size 20 (fun x => firstAt x l) ∧ Below w.heap.size w w' := by
  have HI : Hid (HdsIn w a l) := hi
  have HZ : Hid (∀ (i : Nat) r, l[i]? = some r → r.name.size ≤ 64) := hz
  clear hi hz
  generalize hn : l.length = n at *
  have HN : Hid (l.length = n) := hn
  clear hn
  have hmm := @run_makeMap Tryz.prog
  go_enter Tryz.func135, Tryz.ntmps135
  go_wp2_with fail
  go_loopw [12] (fun i wr => ∃ (k : Nat), k ≤ n ∧ i = .int .i64 k ∧ NamesMap wr w.heap.size k (fun x => firstAt x (l.take k)) ∧ Below w.heap.size w wr) (fun i _ => n - (intOf i).toNat)
  case atStart => exact ⟨0, Nat.zero_le _, rfl, NamesMap.made w, (Below.refl _ _).alloc (Nat.le_refl _) _⟩
  case round =>
    obtain ⟨k, hk, rfl, hm, hb⟩ := hrel
    have HM : Hid (NamesMap wr w.heap.size k (fun x => firstAt x (l.take k))) := hm
    clear hm
    by_cases hlt : k < n
    · obtain ⟨r, hr⟩ : ∃ r, l[k]? = some r := ⟨l[k]'(by have := HN.out; omega), List.getElem?_eq_getElem _⟩
      obtain ⟨b, off, rfl, hat⟩ := HI.out.ok hr
      obtain ⟨p1, p3⟩ := (hat.keep hb) k r hr
      have z1 := HZ.out k r hr
      have HK : Hid (l.take (k + 1) = l.take k ++ [r]) := take_hdr hr
      have hlk : Hid ((l.take k).length = k) := by show _ = _; rw [List.length_take]; have := HN.out; omega
      have gk : (k : Int) < n := by omega
      clear hr hat HI HZ
      have FS := fun j => @firstAt_known (l.take k) r j
      have FN := @firstAt_new (l.take k) r
      obtain ⟨rn, rv⟩ := r
      simp only at p1 p3 z1 FS FN
      rw [hlk.out] at FN
      have SN := fun w => smallName_any rn w (by omega)
      have sz := lowS_size rn
      generalize lowS rn = q at *
      have HSN : Hid (∀ w, Calls Tryz.prog 91 #[.string rn] w fun e w' => e = .returned (.string q) ∧ Below w.heap.size w w') := SN
      clear SN
      cases hq : firstAt q (l.take k) with
      | some j =>
        have HX : Hid (∀ x, firstAt x (l.take k) = firstAt x (l.take (k + 1))) := fun x => by rw [HK.out]; exact FS j hq x
        have HQ : Hid (firstAt q (l.take k) = some j) := hq
        clear hq FS FN HK
        go_wp2_with fail
        refine (HSN.out _).mono ?_
        rintro e w2 ⟨rfl, hb2⟩
        obtain ⟨_, _, _, kb⟩ := hdr_room hb2
        have HM2 : Hid (NamesMap w2 w.heap.size k (fun x => firstAt x (l.take k))) := HM.out.below kb
        have HB2 : Hid (Below w.heap.size w w2) := hb.trans (kb.mono hb.size)
        clear hb2 kb hb HM p1 p3
        go_wp2_with (at_lookup; refine wpList_look_some _ rfl _ _ rfl w.heap.size k _ rfl HM2.out q rfl (by omega) j HQ.out ?_)
        go_roundw
        case rel => exact ⟨k + 1, by omega, by go_num, NamesMap.of (by obtain ⟨D, h1, h2⟩ := HM2.out; exact ⟨D, h1.mono (Nat.le_succ _), h2⟩) HX.out, HB2.out⟩
        case measure => simp [intOf]; omega
      | none =>
        have HX : Hid (∀ x, (if x = q then some k else firstAt x (l.take k)) = firstAt x (l.take (k + 1))) := fun x => by rw [HK.out]; exact FN hq x
        have HQ : Hid (firstAt q (l.take k) = none) := hq
        clear hq FS FN HK
        go_wp2_with fail
        refine (HSN.out _).mono ?_
        rintro e w2 ⟨rfl, hb2⟩
        obtain ⟨_, _, _, kb⟩ := hdr_room hb2
        have HM2 : Hid (NamesMap w2 w.heap.size k (fun x => firstAt x (l.take k))) := HM.out.below kb
        have HB2 : Hid (Below w.heap.size w w2) := hb.trans (kb.mono hb.size)
        clear hb2 kb hb HM p1 p3
        go_wp2_with (first | (at_lookup; refine wpList_look_none _ rfl _ _ rfl w.heap.size k _ rfl HM2.out q rfl (by omega) HQ.out ?_) | (at_mapUpdate; refine wpList_put _ rfl _ _ _ rfl w.heap.size k _ rfl HM2.out (by omega) q rfl (by omega) k (by omega) rfl w.heap.size (Nat.le_refl _) ?_; intro w3 HM3 hb3))
        go_roundw
        case rel => exact ⟨k + 1, by omega, by go_num, HM3.of HX.out, HB2.out.trans hb3⟩
        case measure => simp [intOf]; omega
    · have HX : Hid (NamesMap wr w.heap.size 20 (fun x => firstAt x l)) := by
        have e : l.take k = l := List.take_of_length_le (by have := HN.out; omega)
        have := HM.out
        rw [e] at this
        obtain ⟨D, h1, h2⟩ := this
        exact ⟨D, h1.mono (by omega), h2⟩
      clear HM
      go_wp2_with fail
      go_ret
      exact ⟨rfl, HX.out, hb⟩
/-- What is left of the lines: those whose names the map has. -/
def keptH (p : ByteArray → Option Nat) (l : List Hdr) : List Hdr := l.filter fun r => (p (lowS r.name)).isSome
theorem keptH_yes {p : ByteArray → Option Nat} {r : Hdr} {i : Nat} (l : List Hdr) (h : p (lowS r.name) = some i) : keptH p (l ++ [r]) = keptH p l ++ [r] := by simp [keptH, h]
theorem keptH_no {p : ByteArray → Option Nat} {r : Hdr} (l : List Hdr) (h : p (lowS r.name) = none) : keptH p (l ++ [r]) = keptH p l := by simp [keptH, h]
theorem keptH_len (p : ByteArray → Option Nat) (l : List Hdr) : (keptH p l).length ≤ l.length := List.length_filter_le _ _
def KeptRes (base : Nat) (L : List Hdr) (e : Ending) (w : World) : Prop := ∃ v, e = .returned v ∧ OwnH w base v L
theorem KeptRes.mk {base : Nat} {L M : List Hdr} {w : World} {v : Value} (h : M = L) (ho : OwnH w base v L) : KeptRes base M (.returned v) w := ⟨v, rfl, h ▸ ho⟩
set_option maxRecDepth 100000 in
set_option maxHeartbeats 8000000 in
theorem linesNamed_any (w : World) (a : Option Addr) (cap : Nat) (l : List Hdr) (B : Nat) (p : ByteArray → Option Nat) (h20 : l.length ≤ 20) (hz : ∀ (i : Nat) r, l[i]? = some r → r.name.size ≤ 64 ∧ r.value.size ≤ 200) (hi : HdsIn w a l) (hm : NamesMap w B 20 p) :
    Calls Tryz.prog 171 #[.slice a l.length cap, .map (some B)] w fun e w' => KeptRes w.heap.size (keptH p l) e w' ∧ Below w.heap.size w w' := by
  have HI : Hid (HdsIn w a l) := hi
  have HZ : Hid (∀ (i : Nat) r, l[i]? = some r → r.name.size ≤ 64 ∧ r.value.size ≤ 200) := hz
  have HM : Hid (NamesMap w B 20 p) := hm
  clear hi hz hm
  generalize hn : l.length = n at *
  have HN : Hid (l.length = n) := hn
  clear hn
  go_enter Tryz.func171, Tryz.ntmps171
  go_wp2_with fail
  go_loopw [5, 12] (fun v i wr => ∃ (k : Nat), k ≤ n ∧ i = .int .i64 k ∧ OwnH wr w.heap.size v (keptH p (l.take k)) ∧ Below w.heap.size w wr) (fun _ i _ => n - (intOf i).toNat)
  case atStart => exact ⟨0, Nat.zero_le _, rfl, OwnH.nil _ _, Below.refl _ _⟩
  case round =>
    obtain ⟨k, hk, rfl, ho, hb⟩ := hrel
    have HO : Hid (OwnH wr w.heap.size u5 (keptH p (l.take k))) := ho
    have hzw := hb.size
    clear ho
    by_cases hlt : k < n
    · obtain ⟨r, hr⟩ : ∃ r, l[k]? = some r := ⟨l[k]'(by have := HN.out; omega), List.getElem?_eq_getElem _⟩
      obtain ⟨b, off, rfl, hat⟩ := HI.out.ok hr
      obtain ⟨p1, p3⟩ := (hat.keep hb) k r hr
      obtain ⟨z1, z2⟩ := HZ.out k r hr
      have HK : Hid (l.take (k + 1) = l.take k ++ [r]) := take_hdr hr
      have hlk : (keptH p (l.take k)).length ≤ 20 := Nat.le_trans (keptH_len _ _) (by rw [List.length_take]; omega)
      have gk : (k : Int) < n := by omega
      have HMr : Hid (NamesMap wr B 20 p) := HM.out.below hb
      clear hr hat HI HZ
      have KY := fun i => @keptH_yes p r i (l.take k)
      have KN := @keptH_no p r (l.take k)
      obtain ⟨rn, rv⟩ := r
      simp only at p1 p3 z1 z2 KY KN
      have SN := fun w => smallName_any rn w (by omega)
      have sz := lowS_size rn
      generalize lowS rn = q at *
      have HSN : Hid (∀ w, Calls Tryz.prog 91 #[.string rn] w fun e w' => e = .returned (.string q) ∧ Below w.heap.size w w') := SN
      clear SN
      cases hq : p q with
      | none =>
        have HX : Hid (keptH p (l.take (k + 1)) = keptH p (l.take k)) := by show _ = _; rw [HK.out]; exact KN hq
        have HQ : Hid (p q = none) := hq
        clear hq KY KN HK
        generalize keptH p (l.take k) = L at *
        go_wp2_with fail
        refine (HSN.out _).mono ?_
        rintro e w2 ⟨rfl, hb2⟩
        obtain ⟨_, _, _, kb⟩ := hdr_room hb2
        have HM2 : Hid (NamesMap w2 B 20 p) := HMr.out.below kb
        have HO2 : Hid (OwnH w2 w.heap.size u5 L) := HO.out.below kb
        have HB2 : Hid (Below w.heap.size w w2) := hb.trans (kb.mono hb.size)
        clear hb2 kb hb HMr p1 p3 HO
        go_wp2_with (at_lookup; refine wpList_look_none _ rfl _ _ rfl B 20 p rfl HM2.out q rfl (by omega) HQ.out ?_)
        go_roundw
        case rel => exact ⟨k + 1, by omega, by go_num, by rw [HX.out]; exact HO2.out, HB2.out⟩
        case measure => simp [intOf]; omega
      | some j =>
        have HX : Hid (keptH p (l.take (k + 1)) = keptH p (l.take k) ++ [⟨rn, rv⟩]) := by show _ = _; rw [HK.out]; exact KY j hq
        have HQ : Hid (p q = some j) := hq
        clear hq KY KN HK
        generalize keptH p (l.take k) = L at *
        go_wp2_with fail
        refine (HSN.out _).mono ?_
        rintro e w2 ⟨rfl, hb2⟩
        obtain ⟨hz2, c0, c1, kb⟩ := hdr_room hb2
        have HM2 : Hid (NamesMap w2 B 20 p) := HMr.out.below kb
        have HO2 : Hid (OwnH w2 w.heap.size u5 L) := HO.out.below kb
        have HB2 : Hid (Below w.heap.size w w2) := hb.trans (kb.mono hb.size)
        clear hb2 kb hb HMr p1 p3 HO
        go_wp2_with (at_lookup; refine wpList_look_some _ rfl _ _ rfl B 20 p rfl HM2.out q rfl (by omega) j HQ.out ?_)
        refine (lineOf_any rn rv _ (by omega) (by omega)).mono ?_
        rintro e w3 ⟨rfl, hb3⟩
        have HO3 : Hid (OwnH w3 w.heap.size u5 L) := HO2.out.below hb3
        have HB3 : Hid (Below w.heap.size w w3) := HB2.out.trans (hb3.mono HB2.out.size)
        have hz3 := HB3.out.size
        clear hb3 HM2 HO2 HB2 c0 c1
        go_wp2_with (at_builtin; refine wpList_append_hdr _ rfl (.tmp 25) (.tmp 31) rfl w.heap.size _ L rn rv rfl rfl HO3.out (by omega) hz3 ?_; intro v4 w4 HO4 hb4 hz4 hk4)
        go_roundw
        case rel => exact ⟨k + 1, by omega, by go_num, by rw [HX.out]; exact HO4, HB3.out.trans hb4⟩
        case measure => simp [intOf]; omega
    · have HX : Hid (keptH p l = keptH p (l.take k)) := by
        show _ = _
        rw [List.take_of_length_le (by have := HN.out; omega)]
      go_wp2_with fail
      go_ret
      exact ⟨KeptRes.mk HX.out HO.out, hb⟩
end Go.Proofs.YtojcjpdgjohldaaGreatDoor
/-
  What DropHeader and its model answer.
-/
namespace Go.Proofs.YtojcjpdgjohldaaGreatDoor
open Go.ChangeShapes Go.WideShapes Go.ChangeAt Go.RowKit Go.Sort
/-- A result: a code and head lines in memory of the call's own. -/
def HRes (c : Int) (L : List Hdr) (base : Nat) (e : Ending) (w : World) : Prop := ∃ v, e = .returned (.agg #[.int .i64 c, v]) ∧ OwnH w base v L
theorem HRes.mk {c d : Int} {L M : List Hdr} {base : Nat} {w : World} {v : Value} (h : c = d ∧ L = M) (ho : OwnH w base v M) : HRes c L base (.returned (.agg #[.int .i64 d, v])) w := ⟨v, by rw [h.1], by rw [h.2]; exact ho⟩
theorem ownH_set {w : World} {base b o : Nat} {v u : Value} {l : List Hdr} (h : OwnH w base v l) (hb : b < base) : OwnH (w.setCell ⟨b, o, none⟩ u) base v l := by
  obtain ⟨h1, h2⟩ := h
  refine ⟨h1, ?_⟩
  rcases h2 with h2 | ⟨g, c, cur, e, hg, hh, hrest⟩
  · exact .inl h2
  · exact .inr ⟨g, c, cur, e, hg, by rw [RowKit.Below.heap_setCell _ _ _ _ (by show g ≠ b; omega)]; exact hh, hrest⟩
theorem heads_room {w w1 : World} (hb : Below (w.heap.size + 1) (w.alloc (.cells #[.int .i64 0, .slice none 0 0] 109)) w1) :
    w.heap.size < w1.heap.size ∧ w1.cell? ⟨w.heap.size, 0, none⟩ = some (.int .i64 0) ∧ w1.cell? ⟨w.heap.size, 1, none⟩ = some (.slice none 0 0) ∧ w1.frozen? ⟨w.heap.size, 0, none⟩ = false ∧ w1.frozen? ⟨w.heap.size, 1, none⟩ = false ∧ Below w.heap.size w w1 := by
  have hz := hb.size
  simp only [World.size_alloc] at hz
  exact ⟨hz, by rw [hb.cell (p := ⟨w.heap.size, 0, none⟩) (Nat.lt_succ_self _)]; simp, by rw [hb.cell (p := ⟨w.heap.size, 1, none⟩) (Nat.lt_succ_self _)]; simp, by rw [hb.frozen (p := ⟨w.heap.size, 0, none⟩) (Nat.lt_succ_self _)]; simp, by rw [hb.frozen (p := ⟨w.heap.size, 1, none⟩) (Nat.lt_succ_self _)]; simp, ((Below.refl _ _).alloc (Nat.le_refl _) _).trans (hb.mono (Nat.le_succ _))⟩
set_option maxRecDepth 100000 in
set_option maxHeartbeats 8000000 in
theorem l4Drop_any (w : World) (a : Option Addr) (cap : Nat) (l : List Hdr) (name : ByteArray) (h20 : l.length ≤ 20) (hz : ∀ (i : Nat) r, l[i]? = some r → r.name.size ≤ 64) (hnm : name.size ≤ 64) (hi : HdsIn w a l) :
    Calls Tryz.prog 87 #[.slice a l.length cap, .string name] w fun e w' => KeptRes w.heap.size (dropH (lowS name) l) e w' ∧ Below w.heap.size w w' := by
  have HI : Hid (HdsIn w a l) := hi
  have HZ : Hid (∀ (i : Nat) r, l[i]? = some r → r.name.size ≤ 64) := hz
  clear hi hz
  generalize hn : l.length = n at *
  have HN : Hid (l.length = n) := hn
  clear hn
  go_enter Tryz.func87, Tryz.ntmps87
  go_wp2_with fail
  go_loopw [5, 6] (fun v i wr => ∃ (k : Nat), k ≤ n ∧ i = .int .i64 k ∧ OwnH wr w.heap.size v (dropH (lowS name) (l.take k)) ∧ Below w.heap.size w wr) (fun _ i _ => n - (intOf i).toNat)
  case atStart => exact ⟨0, Nat.zero_le _, rfl, OwnH.made0 w w.heap.size (Nat.le_refl _), (Below.refl _ _).alloc (Nat.le_refl _) _⟩
  case round =>
    obtain ⟨k, hk, rfl, ho, hb⟩ := hrel
    have HO : Hid (OwnH wr w.heap.size u5 (dropH (lowS name) (l.take k))) := ho
    have hzw := hb.size
    clear ho
    by_cases hlt : k < n
    · obtain ⟨r, hr⟩ : ∃ r, l[k]? = some r := ⟨l[k]'(by have := HN.out; omega), List.getElem?_eq_getElem _⟩
      obtain ⟨b, off, rfl, hat⟩ := HI.out.ok hr
      obtain ⟨p1, p3⟩ := (hat.keep hb) k r hr
      have z1 := HZ.out k r hr
      have HK : Hid (l.take (k + 1) = l.take k ++ [r]) := take_hdr hr
      have hlk : (dropH (lowS name) (l.take k)).length ≤ 20 := Nat.le_trans (dropH_len _ _) (by rw [List.length_take]; omega)
      have gk : (k : Int) < n := by omega
      clear hr hat HI HZ
      have KY := @dropH_yes (lowS name) r (l.take k)
      have KN := @dropH_no (lowS name) r (l.take k)
      obtain ⟨rn, rv⟩ := r
      simp only at p1 p3 z1 KY KN
      have SA := fun w => l4Alike_any rn name w (by omega) (by omega)
      by_cases he : lowS rn = lowS name
      · have HX : Hid (dropH (lowS name) (l.take (k + 1)) = dropH (lowS name) (l.take k)) := by show _ = _; rw [HK.out]; exact KY he
        have HSA : Hid (∀ w, Calls Tryz.prog 119 #[.string rn, .string name] w fun e w' => e = .returned (.bool true) ∧ Below w.heap.size w w') := by
          rw [show decide (lowS rn = lowS name) = true from by simpa using he] at SA
          exact SA
        clear SA KY KN HK he
        generalize dropH (lowS name) (l.take k) = L at *
        go_wp2_with fail
        refine (HSA.out _).mono ?_
        rintro e w2 ⟨rfl, hb2⟩
        have HO2 : Hid (OwnH w2 w.heap.size u5 L) := HO.out.below hb2
        have HB2 : Hid (Below w.heap.size w w2) := hb.trans (hb2.mono hb.size)
        clear hb2 hb HO p1 p3
        go_wp2_with fail
        go_roundw
        case rel => exact ⟨k + 1, by omega, by go_num, by rw [HX.out]; exact HO2.out, HB2.out⟩
        case measure => simp [intOf]; omega
      · have HX : Hid (dropH (lowS name) (l.take (k + 1)) = dropH (lowS name) (l.take k) ++ [⟨rn, rv⟩]) := by show _ = _; rw [HK.out]; exact KN he
        have HSA : Hid (∀ w, Calls Tryz.prog 119 #[.string rn, .string name] w fun e w' => e = .returned (.bool false) ∧ Below w.heap.size w w') := by
          rw [show decide (lowS rn = lowS name) = false from by simpa using he] at SA
          exact SA
        clear SA KY KN HK he
        generalize dropH (lowS name) (l.take k) = L at *
        go_wp2_with fail
        refine (HSA.out _).mono ?_
        rintro e w2 ⟨rfl, hb2⟩
        have HO2 : Hid (OwnH w2 w.heap.size u5 L) := HO.out.below hb2
        have HB2 : Hid (Below w.heap.size w w2) := hb.trans (hb2.mono hb.size)
        have p1 := hkeep hb2 p1
        have p3 := hkeep hb2 p3
        have hz2 := HB2.out.size
        clear hb2 hb HO
        go_wp2_with (at_builtin; refine wpList_append_hdr _ rfl (.tmp 22) (.tmp 27) rfl w.heap.size _ L rn rv rfl rfl HO2.out (by omega) hz2 ?_; intro v4 w4 HO4 hb4 hz4 hk4)
        go_roundw
        case rel => exact ⟨k + 1, by omega, by go_num, by rw [HX.out]; exact HO4, HB2.out.trans hb4⟩
        case measure => simp [intOf]; omega
    · have HX : Hid (dropH (lowS name) l = dropH (lowS name) (l.take k)) := by
        show _ = _
        rw [List.take_of_length_le (by have := HN.out; omega)]
      go_wp2_with fail
      go_ret
      exact ⟨KeptRes.mk HX.out HO.out, hb⟩
theorem dropL_bad {l : List Hdr} {name : ByteArray} (h : askC l name ≠ 0) : dropL l name = [] := by unfold dropL; rw [if_neg h]
theorem dropL_ok {l : List Hdr} {name : ByteArray} (h : askC l name = 0) : dropL l name = dropH (lowS name) l := by unfold dropL; rw [if_pos h]
theorem dropL_len (l : List Hdr) (name : ByteArray) : (dropL l name).length ≤ 20 := by
  by_cases h : askC l name = 0
  · rw [dropL_ok h]
    have := (headsC_zero (askC_zero h).1).1
    exact Nat.le_trans (dropH_len _ _) this
  · rw [dropL_bad h]; simp
theorem asked {l : List Hdr} {name : ByteArray} (h : askC l name = 0) : l.length ≤ 20 ∧ (∀ (i : Nat) r, l[i]? = some r → r.name.size ≤ 64 ∧ r.value.size ≤ 200) ∧ name.size ≤ 64 := by
  obtain ⟨h0, hw⟩ := askC_zero h
  obtain ⟨h20, hf⟩ := headsC_zero h0
  exact ⟨h20, fun i r hr => by obtain ⟨x1, x2, _⟩ := faultH_zero (hf i r hr); exact ⟨hword_max x1, x2⟩, hword_max hw⟩
theorem keptH_drop (x : ByteArray) (l : List Hdr) : keptH (fun y => if y = x then none else firstAt y l) l = dropH x l := by
  unfold keptH dropH
  refine List.filter_congr fun r hr => ?_
  by_cases e : lowS r.name = x
  · simp [e]
  · simp only [e, not_false_eq_true, decide_true]
    cases c : firstAt (lowS r.name) l with
    | some i => rfl
    | none => exact absurd rfl (firstAt_none c r hr)
set_option maxRecDepth 100000 in
set_option maxHeartbeats 4000000 in
theorem implDrop_any (w : World) (a : Option Addr) (cap : Nat) (l : List Hdr) (name : ByteArray) (hl : l.length ≤ 1048576) (hset : SetIs w) (hi : HdsIn w a l) :
    Calls Tryz.prog 128 #[.slice a l.length cap, .string name] w fun e w' => HRes (askC l name) (dropL l name) w.heap.size e w' ∧ Below w.heap.size w w' := by
  have HA : Hid (∀ W, Below w.heap.size w W → Calls Tryz.prog 134 #[.slice a l.length cap, .string name] W fun e w' => e = .returned (.int .i64 (askC l name)) ∧ Below W.heap.size W w') := fun W hb => namedFault_any W a cap l name hl (hset.below hb) (hi.keep hb)
  by_cases h0 : askC l name = 0
  · obtain ⟨h20, hz, hnm⟩ := asked h0
    have HP : Hid (∀ W, Below w.heap.size w W → Calls Tryz.prog 135 #[.slice a l.length cap] W fun e w' => e = .returned (.map (some W.heap.size)) ∧ NamesMap w' W.heap.size 20 (fun x => firstAt x l) ∧ Below W.heap.size W w') := fun W hb => firstPlaces_any W a cap l h20 (fun i r hr => (hz i r hr).1) (hi.keep hb)
    have HS : Hid (∀ W, Calls Tryz.prog 91 #[.string name] W fun e w' => e = .returned (.string (lowS name)) ∧ Below W.heap.size W w') := fun W => smallName_any name W (by omega)
    have HK : Hid (∀ W B, Below w.heap.size w W → NamesMap W B 20 (fun y => if y = lowS name then none else firstAt y l) → Calls Tryz.prog 171 #[.slice a l.length cap, .map (some B)] W fun e w' => KeptRes W.heap.size (dropL l name) e w' ∧ Below W.heap.size W w') := fun W B hb hm => by
      rw [dropL_ok h0, ← keptH_drop]
      exact linesNamed_any W a cap l B _ h20 hz (hi.keep hb) hm
    have sz := lowS_size name
    rw [h0] at HA ⊢
    clear hi hz h0 h20 hset
    generalize dropL l name = L at *
    generalize l.length = n at *
    generalize lowS name = q at *
    go_enter Tryz.func128, Tryz.ntmps128
    go_wp2_with fail
    refine (HA.out _ ((Below.refl _ _).alloc (Nat.le_refl _) _)).mono ?_
    rintro e w1 ⟨rfl, hb1⟩
    rw [World.size_alloc] at hb1
    have HB1 : Hid (Below (w.heap.size + 1) (w.alloc (.cells #[.int .i64 0, .slice none 0 0] 109)) w1) := hb1
    have hz1 : w.heap.size + 1 ≤ w1.heap.size := by have := hb1.size; rwa [World.size_alloc] at this
    clear hb1 HA
    go_wp2_with fail
    refine (HP.out _ (heads_room HB1.out).2.2.2.2.2).mono ?_
    rintro e w2 ⟨rfl, hm2, hb2⟩
    have HB2 : Hid (Below (w.heap.size + 1) (w.alloc (.cells #[.int .i64 0, .slice none 0 0] 109)) w2) := HB1.out.trans (hb2.mono hz1)
    have hz2 : w.heap.size + 1 ≤ w2.heap.size := Nat.le_trans hz1 hb2.size
    have HM2 : Hid (NamesMap w2 w1.heap.size 20 (fun x => firstAt x l)) := hm2
    clear hb2 HB1 hm2 HP
    generalize w1.heap.size = B at *
    clear w1
    go_wp2_with fail
    refine (HS.out _).mono ?_
    rintro e w3 ⟨rfl, hb3⟩
    have HB3 : Hid (Below (w.heap.size + 1) (w.alloc (.cells #[.int .i64 0, .slice none 0 0] 109)) w3) := HB2.out.trans (hb3.mono hz2)
    have hz3 : w.heap.size + 1 ≤ w3.heap.size := Nat.le_trans hz2 hb3.size
    have HM3 : Hid (NamesMap w3 B 20 (fun x => firstAt x l)) := HM2.out.below hb3
    clear hb3 HB2 HM2 HS hz2
    clear w2
    go_wp2_with (at_delete; refine wpList_del _ rfl _ _ rfl B 20 _ rfl HM3.out q rfl (by omega) (w.heap.size + 1) hz1 ?_; intro w4 HM4 hb4)
    have HB4 : Below (w.heap.size + 1) (w.alloc (.cells #[.int .i64 0, .slice none 0 0] 109)) w4 := HB3.out.trans hb4
    refine (HK.out _ _ (heads_room HB4).2.2.2.2.2 HM4).mono ?_
    rintro e w5 ⟨⟨v, rfl, ho⟩, hb5⟩
    have hz4 : w.heap.size + 1 ≤ w4.heap.size := by have := HB4.size; rwa [World.size_alloc] at this
    obtain ⟨hz5, q0, q1, f0, f1, kb⟩ := heads_room (HB4.trans (hb5.mono hz4))
    obtain ⟨va, vc, hv, _⟩ := ho.at
    generalize hn : L.length = vn at hv
    subst hv
    obtain ⟨r0, r1⟩ := two_set (v0 := .int .i64 0) (v1 := .slice va vn vc) q0 q1
    have KO : Hid (OwnH w5 (w.heap.size + 1) (.slice va vn vc) L) := ho.lower hz4
    clear hb5 HB4 HK ho hn HM4 HM3 HB3 hb4
    go_wp2_with fail
    exact bodyPost_ret (v := .agg #[.int .i64 0, .slice va vn vc]) (by simp [results, Tryz.results128, go_sem, r0, r1]) rfl ⟨HRes.mk ⟨rfl, rfl⟩ ((ownH_set (ownH_set KO.out (Nat.lt_succ_self _)) (Nat.lt_succ_self _)).lower (Nat.le_succ _)), (kb.setCell (Nat.le_refl _) _).setCell (Nat.le_refl _) _⟩
  · rw [dropL_bad h0]
    clear hi hset
    generalize askC l name = fc at *
    generalize l.length = n at *
    go_enter Tryz.func128, Tryz.ntmps128
    go_wp2_with fail
    refine (HA.out _ ((Below.refl _ _).alloc (Nat.le_refl _) _)).mono ?_
    rintro e w1 ⟨rfl, hb1⟩
    rw [World.size_alloc] at hb1
    obtain ⟨hz2, q0, q1, f0, f1, kb⟩ := heads_room hb1
    obtain ⟨r0, r1⟩ := two_set (v0 := .int .i64 fc) (v1 := .slice none 0 0) q0 q1
    clear hb1 HA
    go_wp2_with fail
    exact bodyPost_ret (v := .agg #[.int .i64 fc, .slice none 0 0]) (by simp [results, Tryz.results128, go_sem, r0, r1]) rfl ⟨HRes.mk ⟨rfl, rfl⟩ (OwnH.nil _ _), (kb.setCell (Nat.le_refl _) _).setCell (Nat.le_refl _) _⟩
end Go.Proofs.YtojcjpdgjohldaaGreatDoor
/-
  What JoinHeader and its model answer.
-/
namespace Go.Proofs.YtojcjpdgjohldaaGreatDoor
open Go.ChangeShapes Go.WideShapes Go.ChangeAt Go.RowKit Go.Sort
def anyV (vs : List ByteArray) : Bool := !vs.isEmpty
theorem anyV_snoc (vs : List ByteArray) (v : ByteArray) : anyV (vs ++ [v]) = true := by simp [anyV]
theorem hret_sb {a b : ByteArray} {c d : Bool} (h1 : a = b) (h2 : c = d) : Ending.returned (.tuple #[.string a, .bool c]) = .returned (.tuple #[.string b, .bool d]) := by rw [h1, h2]
set_option maxRecDepth 100000 in
set_option maxHeartbeats 8000000 in
theorem l4Join_any (w : World) (a : Option Addr) (cap : Nat) (l : List Hdr) (name : ByteArray) (h20 : l.length ≤ 20) (hz : ∀ (i : Nat) r, l[i]? = some r → r.name.size ≤ 64 ∧ r.value.size ≤ 200) (hnm : name.size ≤ 64) (hi : HdsIn w a l) :
    Calls Tryz.prog 70 #[.slice a l.length cap, .string name] w fun e w' => e = .returned (.tuple #[.string ⟨(hjoinL (valsOf (lowS name) l)).toArray⟩, .bool (anyV (valsOf (lowS name) l))]) ∧ Below w.heap.size w w' := by
  have HI : Hid (HdsIn w a l) := hi
  have HZ : Hid (∀ (i : Nat) r, l[i]? = some r → r.name.size ≤ 64 ∧ r.value.size ≤ 200) := hz
  clear hi hz
  generalize hn : l.length = n at *
  have HN : Hid (l.length = n) := hn
  clear hn
  go_enter Tryz.func70, Tryz.ntmps70
  go_wp2_with fail
  go_loopw [6, 7, 8] (fun v f i wr => ∃ (k : Nat) (o : ByteArray) (bf : Bool), k ≤ n ∧ i = .int .i64 k ∧ v = .string o ∧ f = .bool bf ∧ o.data.toList = hjoinL (valsOf (lowS name) (l.take k)) ∧ bf = anyV (valsOf (lowS name) (l.take k)) ∧ o.size ≤ k * 202 ∧ Below w.heap.size w wr) (fun _ _ i _ => n - (intOf i).toNat)
  case atStart => exact ⟨0, ⟨#[]⟩, false, Nat.zero_le _, rfl, rfl, rfl, rfl, rfl, Nat.zero_le _, Below.refl _ _⟩
  case round =>
    obtain ⟨k, o, bf, hk, rfl, rfl, rfl, ho, hbf, hos, hb⟩ := hrel
    have HO : Hid (o.data.toList = hjoinL (valsOf (lowS name) (l.take k))) := ho
    have HBF : Hid (bf = anyV (valsOf (lowS name) (l.take k))) := hbf
    clear ho hbf
    by_cases hlt : k < n
    · obtain ⟨r, hr⟩ : ∃ r, l[k]? = some r := ⟨l[k]'(by have := HN.out; omega), List.getElem?_eq_getElem _⟩
      obtain ⟨b, off, rfl, hat⟩ := HI.out.ok hr
      obtain ⟨p1, p3⟩ := (hat.keep hb) k r hr
      obtain ⟨z1, z2⟩ := HZ.out k r hr
      have HK : Hid (l.take (k + 1) = l.take k ++ [r]) := take_hdr hr
      have gk : (k : Int) < n := by omega
      clear hr hat HI HZ
      have KY := @valsOf_yes (lowS name) r (l.take k)
      have KN := @valsOf_no (lowS name) r (l.take k)
      obtain ⟨rn, rv⟩ := r
      simp only at p1 p3 z1 z2 KY KN
      have SA := fun w => l4Alike_any rn name w (by omega) (by omega)
      by_cases he : lowS rn = lowS name
      · have HX : Hid (valsOf (lowS name) (l.take (k + 1)) = valsOf (lowS name) (l.take k) ++ [rv]) := by show _ = _; rw [HK.out]; exact KY he
        have HSA : Hid (∀ w, Calls Tryz.prog 119 #[.string rn, .string name] w fun e w' => e = .returned (.bool true) ∧ Below w.heap.size w w') := by
          rw [show decide (lowS rn = lowS name) = true from by simpa using he] at SA
          exact SA
        have HY : Hid (anyV (valsOf (lowS name) (l.take (k + 1))) = true) := by show _ = _; rw [HX.out]; exact anyV_snoc _ _
        clear SA KY KN HK he
        cases bf
        · have HV : Hid (valsOf (lowS name) (l.take k) = []) := by
            show _ = _
            have := HBF.out
            simpa [anyV] using this.symm
          have HT : Hid ((o ++ rv : ByteArray).data.toList = hjoinL (valsOf (lowS name) (l.take (k + 1)))) := by
            show _ = _
            rw [HX.out, hjoinL_snoc, happ_list, HO.out, if_pos HV.out, List.append_nil]
          have HU : Hid ((o ++ rv : ByteArray).size ≤ (k + 1) * 202) := by
            show _ ≤ _
            rw [ByteArray.size_append]; omega
          have hoz : o.size ≤ 5000 := by omega
          clear HX HV HO HBF
          go_wp2_with fail
          refine (HSA.out _).mono ?_
          rintro e w2 ⟨rfl, hb2⟩
          have HB2 : Hid (Below w.heap.size w w2) := hb.trans (hb2.mono hb.size)
          have p1 := hkeep hb2 p1
          have p3 := hkeep hb2 p3
          clear hb2 hb
          go_wp2_with fail
          go_roundw
          case rel => exact ⟨k + 1, o ++ rv, true, by omega, by go_num, rfl, rfl, HT.out, HY.out.symm, HU.out, HB2.out⟩
          case measure => simp [intOf]; omega
        · have HV : Hid (¬ valsOf (lowS name) (l.take k) = []) := by
            have := HBF.out
            intro e
            rw [e] at this
            cases this
          have HT : Hid ((o ++ ⟨#[44, 32]⟩ ++ rv : ByteArray).data.toList = hjoinL (valsOf (lowS name) (l.take (k + 1)))) := by
            show _ = _
            rw [HX.out, hjoinL_snoc, happ_list, happ_list, HO.out, if_neg HV.out]
          have HU : Hid ((o ++ ⟨#[44, 32]⟩ ++ rv : ByteArray).size ≤ (k + 1) * 202) := by
            show _ ≤ _
            rw [ByteArray.size_append, ByteArray.size_append, show (⟨#[44, 32]⟩ : ByteArray).size = 2 from rfl]; omega
          have hoz : o.size ≤ 5000 := by omega
          clear HX HV HO HBF
          go_wp2_with fail
          refine (HSA.out _).mono ?_
          rintro e w2 ⟨rfl, hb2⟩
          have HB2 : Hid (Below w.heap.size w w2) := hb.trans (hb2.mono hb.size)
          have p1 := hkeep hb2 p1
          have p3 := hkeep hb2 p3
          clear hb2 hb
          go_wp2_with fail
          go_roundw
          case rel => exact ⟨k + 1, o ++ ⟨#[44, 32]⟩ ++ rv, true, by omega, by go_num, rfl, rfl, HT.out, HY.out.symm, HU.out, HB2.out⟩
          case measure => simp [intOf]; omega
      · have HX : Hid (valsOf (lowS name) (l.take (k + 1)) = valsOf (lowS name) (l.take k)) := by show _ = _; rw [HK.out]; exact KN he
        have HSA : Hid (∀ w, Calls Tryz.prog 119 #[.string rn, .string name] w fun e w' => e = .returned (.bool false) ∧ Below w.heap.size w w') := by
          rw [show decide (lowS rn = lowS name) = false from by simpa using he] at SA
          exact SA
        clear SA KY KN HK he
        go_wp2_with fail
        refine (HSA.out _).mono ?_
        rintro e w2 ⟨rfl, hb2⟩
        have HB2 : Hid (Below w.heap.size w w2) := hb.trans (hb2.mono hb.size)
        clear hb2 hb p1 p3
        go_wp2_with fail
        go_roundw
        case rel => exact ⟨k + 1, o, bf, by omega, by go_num, rfl, rfl, by rw [HX.out]; exact HO.out, by rw [HX.out]; exact HBF.out, by omega, HB2.out⟩
        case measure => simp [intOf]; omega
    · have ek : l.take k = l := List.take_of_length_le (by have := HN.out; omega)
      have HT : Hid ((⟨(hjoinL (valsOf (lowS name) l)).toArray⟩ : ByteArray) = o) := by
        show _ = _
        have := HO.out
        rw [ek] at this
        exact (hof_list this).symm
      have HF : Hid (anyV (valsOf (lowS name) l) = bf) := by
        have := HBF.out
        rw [ek] at this
        exact this.symm
      clear HO HBF ek
      go_wp2_with fail
      go_ret2
      exact ⟨hret_sb HT.out.symm HF.out.symm, hb⟩
end Go.Proofs.YtojcjpdgjohldaaGreatDoor
/-
  What the model's RequestFault answers.
-/
namespace Go.Proofs.YtojcjpdgjohldaaGreatDoor
open Go.ChangeShapes Go.WideShapes Go.ChangeAt Go.RowKit
def ltrI (c : Int) : Bool := (decide (97 ≤ c) && decide (c ≤ 122)) || (decide (65 ≤ c) && decide (c ≤ 90))
def digI (c : Int) : Bool := decide (48 ≤ c) && decide (c ≤ 57)
set_option maxHeartbeats 1000000 in
theorem l1Letter_any (c : Int) (w : World) :
    Calls Tryz.prog 115 #[.int .u8 c] w fun e w' => e = .returned (.bool (ltrI c)) ∧ w' = w := by
  have HE : Hid (ltrI c = ((decide (97 ≤ c) && decide (c ≤ 122)) || (decide (65 ≤ c) && decide (c ≤ 90)))) := rfl
  have KEY : Hid (∀ b : Bool, ltrI c = b → Ending.returned (.bool b) = .returned (.bool (ltrI c))) := fun b h => by rw [h]
  by_cases c3 : c < 65
  · have W : Hid (ltrI c = false) := by show _ = _; rw [HE.out]; simp; omega
    go_enter Tryz.func115, Tryz.ntmps115
    go_wp2
    go_ret
    exact ⟨KEY.out _ W.out, rfl⟩
  by_cases c4 : c ≤ 90
  · have W : Hid (ltrI c = true) := by show _ = _; rw [HE.out]; simp; omega
    have d1 : decide (c ≤ 90) = true := by simpa using c4
    go_enter Tryz.func115, Tryz.ntmps115
    go_wp2
    go_ret
    exact ⟨KEY.out _ W.out, rfl⟩
  have d4 : decide (c ≤ 90) = false := by simpa using c4
  by_cases c5 : c < 97
  · have W : Hid (ltrI c = false) := by show _ = _; rw [HE.out]; simp; omega
    go_enter Tryz.func115, Tryz.ntmps115
    go_wp2
    go_ret
    exact ⟨KEY.out _ W.out, rfl⟩
  by_cases c6 : c ≤ 122
  · have W : Hid (ltrI c = true) := by show _ = _; rw [HE.out]; simp; omega
    have d1 : decide (c ≤ 122) = true := by simpa using c6
    go_enter Tryz.func115, Tryz.ntmps115
    go_wp2
    go_ret
    exact ⟨KEY.out _ W.out, rfl⟩
  have d6 : decide (c ≤ 122) = false := by simpa using c6
  have W : Hid (ltrI c = false) := by show _ = _; rw [HE.out]; simp; omega
  go_enter Tryz.func115, Tryz.ntmps115
  go_wp2
  go_ret
  exact ⟨KEY.out _ W.out, rfl⟩
set_option maxHeartbeats 1000000 in
theorem l1Digit_any (c : Int) (w : World) :
    Calls Tryz.prog 116 #[.int .u8 c] w fun e w' => e = .returned (.bool (digI c)) ∧ w' = w := by
  have HE : Hid (digI c = (decide (48 ≤ c) && decide (c ≤ 57))) := rfl
  have KEY : Hid (∀ b : Bool, digI c = b → Ending.returned (.bool b) = .returned (.bool (digI c))) := fun b h => by rw [h]
  by_cases c3 : c < 48
  · have W : Hid (digI c = false) := by show _ = _; rw [HE.out]; simp; omega
    go_enter Tryz.func116, Tryz.ntmps116
    go_wp2
    go_ret
    exact ⟨KEY.out _ W.out, rfl⟩
  by_cases c4 : c ≤ 57
  · have W : Hid (digI c = true) := by show _ = _; rw [HE.out]; simp; omega
    have d1 : decide (c ≤ 57) = true := by simpa using c4
    go_enter Tryz.func116, Tryz.ntmps116
    go_wp2
    go_ret
    exact ⟨KEY.out _ W.out, rfl⟩
  have d4 : decide (c ≤ 57) = false := by simpa using c4
  have W : Hid (digI c = false) := by show _ = _; rw [HE.out]; simp; omega
  go_enter Tryz.func116, Tryz.ntmps116
  go_wp2
  go_ret
  exact ⟨KEY.out _ W.out, rfl⟩
theorem hostI_split (c : Int) : hostI c = (ltrI c || digI c || decide (c = 46) || decide (c = 45)) := rfl
set_option maxHeartbeats 4000000 in
theorem l5Host_mid (s : ByteArray) (w : World) (h1 : 1 ≤ s.size) (h2 : s.size ≤ 60) :
    Calls Tryz.prog 67 #[.string s] w fun e w' => e = .returned (.bool (allP hostI s.data.toList)) ∧ w' = w := by
  have g1 : ¬ (s.size : Int) < 1 := by omega
  have g2 : ¬ (60 : Int) < s.size := by omega
  go_enter Tryz.func67, Tryz.ntmps67
  go_wp2
  go_loop [3] (fun i => ∃ k : Nat, k ≤ s.size ∧ i = .int .i64 k ∧ allP hostI (s.data.toList.take k) = true) (fun i => s.size - (intOf i).toNat)
  case atStart => exact ⟨0, Nat.zero_le _, rfl, rfl⟩
  case round =>
    obtain ⟨k, hk, rfl, hall⟩ := hrel
    by_cases hlt : k < s.size
    · have HY : Hid (hostI (s[k].toNat : Int) = true → allP hostI (s.data.toList.take (k + 1)) = true) := fun hw => by
        rw [take_snoc s k hlt, allP_snoc, hall, hw]; rfl
      have HN : Hid (hostI (s[k].toNat : Int) = false → allP hostI s.data.toList = false) := allP_not hostI s k hlt
      have HI := hostI_split (s[k].toNat : Int)
      have CL := l1Letter_any (s[k].toNat : Int) w
      have CD := l1Digit_any (s[k].toNat : Int) w
      clear hall
      cases hl : ltrI (s[k].toNat : Int)
      · rw [hl] at CL HI
        cases hd : digI (s[k].toNat : Int)
        · rw [hd] at CD HI
          by_cases e1 : (s[k].toNat : Int) = 46
          · have HA : Hid (allP hostI (s.data.toList.take (k + 1)) = true) := HY.out (by rw [HI]; simp [e1])
            have n1 : ((s[k].toNat : Int) != 46) = false := by rw [e1]; rfl
            clear HY HN HI hl hd e1
            go_wp2_with (first | (go_at_call 115; refine CL.mono ?_; rintro e w' ⟨rfl, rfl⟩) | (go_at_call 116; refine CD.mono ?_; rintro e w' ⟨rfl, rfl⟩))
            go_round
            case rel => exact ⟨k + 1, by omega, by go_num, HA.out⟩
            case measure => simp [intOf]; omega
          · by_cases e2 : (s[k].toNat : Int) = 45
            · have HA : Hid (allP hostI (s.data.toList.take (k + 1)) = true) := HY.out (by rw [HI]; simp [e2])
              have n1 : ((s[k].toNat : Int) != 46) = true := by simpa using e1
              have n2 : ((s[k].toNat : Int) != 45) = false := by rw [e2]; rfl
              clear HY HN HI hl hd e1 e2
              go_wp2_with (first | (go_at_call 115; refine CL.mono ?_; rintro e w' ⟨rfl, rfl⟩) | (go_at_call 116; refine CD.mono ?_; rintro e w' ⟨rfl, rfl⟩))
              go_round
              case rel => exact ⟨k + 1, by omega, by go_num, HA.out⟩
              case measure => simp [intOf]; omega
            · have HA : Hid (allP hostI s.data.toList = false) := HN.out (by rw [HI]; simp [e1, e2])
              have n1 : ((s[k].toNat : Int) != 46) = true := by simpa using e1
              have n2 : ((s[k].toNat : Int) != 45) = true := by simpa using e2
              clear HY HN HI hl hd e1 e2
              go_wp2_with (first | (go_at_call 115; refine CL.mono ?_; rintro e w' ⟨rfl, rfl⟩) | (go_at_call 116; refine CD.mono ?_; rintro e w' ⟨rfl, rfl⟩))
              go_ret
              exact ⟨ret_bool HA.out.symm, rfl⟩
        · rw [hd] at CD HI
          have HA : Hid (allP hostI (s.data.toList.take (k + 1)) = true) := HY.out (by rw [HI]; rfl)
          clear HY HN HI hl hd
          go_wp2_with (first | (go_at_call 115; refine CL.mono ?_; rintro e w' ⟨rfl, rfl⟩) | (go_at_call 116; refine CD.mono ?_; rintro e w' ⟨rfl, rfl⟩))
          go_round
          case rel => exact ⟨k + 1, by omega, by go_num, HA.out⟩
          case measure => simp [intOf]; omega
      · rw [hl] at CL HI
        have HA : Hid (allP hostI (s.data.toList.take (k + 1)) = true) := HY.out (by rw [HI]; rfl)
        clear HY HN HI hl
        go_wp2_with (first | (go_at_call 115; refine CL.mono ?_; rintro e w' ⟨rfl, rfl⟩) | (go_at_call 116; refine CD.mono ?_; rintro e w' ⟨rfl, rfl⟩))
        go_round
        case rel => exact ⟨k + 1, by omega, by go_num, HA.out⟩
        case measure => simp [intOf]; omega
    · have ek : s.data.toList.take k = s.data.toList := List.take_of_length_le (by simp; omega)
      rw [ek] at hall
      have HN : Hid (allP hostI s.data.toList = true) := hall
      clear ek hall
      go_wp2
      go_ret
      exact ⟨ret_bool HN.out.symm, rfl⟩
set_option maxHeartbeats 1000000 in
theorem l5Host_any (s : ByteArray) (w : World) :
    Calls Tryz.prog 67 #[.string s] w fun e w' => e = .returned (.bool (hostS s)) ∧ w' = w := by
  by_cases c1 : s.size < 1
  · rw [hostS_short s c1]
    have hh : (s.size : Int) < 1 := by omega
    go_enter Tryz.func67, Tryz.ntmps67
    go_wp2
    go_ret
    exact ⟨rfl, rfl⟩
  by_cases c2 : 60 < s.size
  · rw [hostS_long s c2]
    have hh : (60 : Int) < s.size := by omega
    have h1 : ¬ (s.size : Int) < 1 := by omega
    go_enter Tryz.func67, Tryz.ntmps67
    go_wp2
    go_ret
    exact ⟨rfl, rfl⟩
  rw [hostS_mid s (by omega) (by omega)]
  exact l5Host_mid s w (by omega) (by omega)
set_option maxHeartbeats 1000000 in
theorem l5PathByte_else (c : Int) (w : World) (h0 : 0 ≤ c) (h1 : c < 256) (hm : markI c.toNat = false) :
    Calls Tryz.prog 117 #[.int .u8 c] w fun e w' => e = .returned (.bool (pathI c)) ∧ w' = w := by
  have HP : pathI c = wordI c := by rw [pathI, hm]; rfl
  rw [HP]
  clear HP
  obtain ⟨n, rfl⟩ := Int.eq_ofNat_of_zero_le h0
  simp only [Int.toNat_natCast, markI, List.contains_eq_mem, List.mem_cons, List.not_mem_nil, or_false, decide_eq_false_iff_not, not_or] at hm
  obtain ⟨s0, s1, s2, s3, s4, s5, s6, s7, s8, s9⟩ := hm
  have t0 : ((n : Int) == 47) = false := by simp; omega
  have t1 : ((n : Int) == 63) = false := by simp; omega
  have t2 : ((n : Int) == 61) = false := by simp; omega
  have t3 : ((n : Int) == 38) = false := by simp; omega
  have t4 : ((n : Int) == 58) = false := by simp; omega
  have t5 : ((n : Int) == 64) = false := by simp; omega
  have t6 : ((n : Int) == 44) = false := by simp; omega
  have t7 : ((n : Int) == 59) = false := by simp; omega
  have t8 : ((n : Int) == 40) = false := by simp; omega
  have t9 : ((n : Int) == 41) = false := by simp; omega
  clear s0 s1 s2 s3 s4 s5 s6 s7 s8 s9
  generalize (n : Int) = c at *
  have C := wordByte_any c w h0 h1
  go_enter Tryz.func117, Tryz.ntmps117
  go_wp2_with fail
  refine C.mono ?_
  rintro e w' ⟨rfl, rfl⟩
  go_wp2_with fail
  go_ret
  exact ⟨rfl, rfl⟩
set_option maxHeartbeats 400000 in
theorem l5PathByte_47 (w : World) :
    Calls Tryz.prog 117 #[.int .u8 47] w fun e w' => e = .returned (.bool (pathI 47)) ∧ w' = w := by
  have W : pathI 47 = true := by decide +kernel
  rw [W]
  clear W
  go_enter Tryz.func117, Tryz.ntmps117
  go_wp2_with fail
  go_ret
  exact ⟨rfl, rfl⟩
set_option maxHeartbeats 400000 in
theorem l5PathByte_63 (w : World) :
    Calls Tryz.prog 117 #[.int .u8 63] w fun e w' => e = .returned (.bool (pathI 63)) ∧ w' = w := by
  have W : pathI 63 = true := by decide +kernel
  rw [W]
  clear W
  go_enter Tryz.func117, Tryz.ntmps117
  go_wp2_with fail
  go_ret
  exact ⟨rfl, rfl⟩
set_option maxHeartbeats 400000 in
theorem l5PathByte_61 (w : World) :
    Calls Tryz.prog 117 #[.int .u8 61] w fun e w' => e = .returned (.bool (pathI 61)) ∧ w' = w := by
  have W : pathI 61 = true := by decide +kernel
  rw [W]
  clear W
  go_enter Tryz.func117, Tryz.ntmps117
  go_wp2_with fail
  go_ret
  exact ⟨rfl, rfl⟩
set_option maxHeartbeats 400000 in
theorem l5PathByte_38 (w : World) :
    Calls Tryz.prog 117 #[.int .u8 38] w fun e w' => e = .returned (.bool (pathI 38)) ∧ w' = w := by
  have W : pathI 38 = true := by decide +kernel
  rw [W]
  clear W
  go_enter Tryz.func117, Tryz.ntmps117
  go_wp2_with fail
  go_ret
  exact ⟨rfl, rfl⟩
set_option maxHeartbeats 400000 in
theorem l5PathByte_58 (w : World) :
    Calls Tryz.prog 117 #[.int .u8 58] w fun e w' => e = .returned (.bool (pathI 58)) ∧ w' = w := by
  have W : pathI 58 = true := by decide +kernel
  rw [W]
  clear W
  go_enter Tryz.func117, Tryz.ntmps117
  go_wp2_with fail
  go_ret
  exact ⟨rfl, rfl⟩
set_option maxHeartbeats 400000 in
theorem l5PathByte_64 (w : World) :
    Calls Tryz.prog 117 #[.int .u8 64] w fun e w' => e = .returned (.bool (pathI 64)) ∧ w' = w := by
  have W : pathI 64 = true := by decide +kernel
  rw [W]
  clear W
  go_enter Tryz.func117, Tryz.ntmps117
  go_wp2_with fail
  go_ret
  exact ⟨rfl, rfl⟩
set_option maxHeartbeats 400000 in
theorem l5PathByte_44 (w : World) :
    Calls Tryz.prog 117 #[.int .u8 44] w fun e w' => e = .returned (.bool (pathI 44)) ∧ w' = w := by
  have W : pathI 44 = true := by decide +kernel
  rw [W]
  clear W
  go_enter Tryz.func117, Tryz.ntmps117
  go_wp2_with fail
  go_ret
  exact ⟨rfl, rfl⟩
set_option maxHeartbeats 400000 in
theorem l5PathByte_59 (w : World) :
    Calls Tryz.prog 117 #[.int .u8 59] w fun e w' => e = .returned (.bool (pathI 59)) ∧ w' = w := by
  have W : pathI 59 = true := by decide +kernel
  rw [W]
  clear W
  go_enter Tryz.func117, Tryz.ntmps117
  go_wp2_with fail
  go_ret
  exact ⟨rfl, rfl⟩
set_option maxHeartbeats 400000 in
theorem l5PathByte_40 (w : World) :
    Calls Tryz.prog 117 #[.int .u8 40] w fun e w' => e = .returned (.bool (pathI 40)) ∧ w' = w := by
  have W : pathI 40 = true := by decide +kernel
  rw [W]
  clear W
  go_enter Tryz.func117, Tryz.ntmps117
  go_wp2_with fail
  go_ret
  exact ⟨rfl, rfl⟩
set_option maxHeartbeats 400000 in
theorem l5PathByte_41 (w : World) :
    Calls Tryz.prog 117 #[.int .u8 41] w fun e w' => e = .returned (.bool (pathI 41)) ∧ w' = w := by
  have W : pathI 41 = true := by decide +kernel
  rw [W]
  clear W
  go_enter Tryz.func117, Tryz.ntmps117
  go_wp2_with fail
  go_ret
  exact ⟨rfl, rfl⟩
theorem l5PathByte_any (c : Int) (w : World) (h0 : 0 ≤ c) (h1 : c < 256) :
    Calls Tryz.prog 117 #[.int .u8 c] w fun e w' => e = .returned (.bool (pathI c)) ∧ w' = w := by
  cases h : markI c.toNat
  · exact l5PathByte_else c w h0 h1 h
  · obtain ⟨n, rfl⟩ := Int.eq_ofNat_of_zero_le h0
    simp only [Int.toNat_natCast, markI, List.contains_eq_mem, List.mem_cons, List.not_mem_nil, or_false, decide_eq_true_eq] at h
    rcases h with rfl | rfl | rfl | rfl | rfl | rfl | rfl | rfl | rfl | rfl
    · exact l5PathByte_47 w
    · exact l5PathByte_63 w
    · exact l5PathByte_61 w
    · exact l5PathByte_38 w
    · exact l5PathByte_58 w
    · exact l5PathByte_64 w
    · exact l5PathByte_44 w
    · exact l5PathByte_59 w
    · exact l5PathByte_40 w
    · exact l5PathByte_41 w
set_option maxHeartbeats 2000000 in
theorem l5Path_mid (s : ByteArray) (w : World) (h0 : 0 < s.size) (hf : (s[0].toNat : Int) = 47) (h2 : s.size ≤ 100) :
    Calls Tryz.prog 68 #[.string s] w fun e w' => e = .returned (.bool (allP pathI s.data.toList)) ∧ w' = w := by
  have g1 : ¬ (s.size : Int) < 1 := by omega
  have g2 : ¬ (100 : Int) < s.size := by omega
  go_enter Tryz.func68, Tryz.ntmps68
  go_wp2
  clear hf
  go_loop [3] (fun i => ∃ k : Nat, k ≤ s.size ∧ i = .int .i64 k ∧ allP pathI (s.data.toList.take k) = true) (fun i => s.size - (intOf i).toNat)
  case atStart => exact ⟨0, Nat.zero_le _, rfl, rfl⟩
  case round =>
    obtain ⟨k, hk, rfl, hall⟩ := hrel
    by_cases hlt : k < s.size
    · have hb : ((s[k].toNat : Nat) : Int) < 256 := by have := s[k].toNat_lt; omega
      have C := l5PathByte_any (s[k].toNat : Int) w (by omega) hb
      cases hw : pathI (s[k].toNat : Int)
      · have HN : Hid (allP pathI s.data.toList = false) := allP_not pathI s k hlt hw
        rw [hw] at C
        clear hall hw
        go_wp2_with fail
        refine C.mono ?_
        rintro e w' ⟨rfl, rfl⟩
        go_wp2_with fail
        go_ret
        exact ⟨ret_bool HN.out.symm, rfl⟩
      · have HA : Hid (allP pathI (s.data.toList.take (k + 1)) = true) := by
          show _ = _
          rw [take_snoc s k hlt, allP_snoc, hall, hw]; rfl
        rw [hw] at C
        clear hall hw
        go_wp2_with fail
        refine C.mono ?_
        rintro e w' ⟨rfl, rfl⟩
        go_wp2_with fail
        go_round
        case rel => exact ⟨k + 1, by omega, by go_num, HA.out⟩
        case measure => simp [intOf]; omega
    · have ek : s.data.toList.take k = s.data.toList := List.take_of_length_le (by simp; omega)
      rw [ek] at hall
      have HN : Hid (allP pathI s.data.toList = true) := hall
      clear ek hall
      go_wp2
      go_ret
      exact ⟨ret_bool HN.out.symm, rfl⟩
set_option maxHeartbeats 1000000 in
theorem l5Path_any (s : ByteArray) (w : World) :
    Calls Tryz.prog 68 #[.string s] w fun e w' => e = .returned (.bool (pathS s)) ∧ w' = w := by
  by_cases c1 : s.size < 1
  · rw [pathS_first s (by rw [head_none s c1]; simp)]
    have hh : (s.size : Int) < 1 := by omega
    go_enter Tryz.func68, Tryz.ntmps68
    go_wp2
    go_ret
    exact ⟨rfl, rfl⟩
  have h1 : ¬ (s.size : Int) < 1 := by omega
  by_cases c2 : 100 < s.size
  · rw [pathS_long s c2]
    have hh : (100 : Int) < s.size := by omega
    go_enter Tryz.func68, Tryz.ntmps68
    go_wp2
    go_ret
    exact ⟨rfl, rfl⟩
  have g2 : ¬ (100 : Int) < s.size := by omega
  have hd := head_get s (by omega)
  have g0 : 0 < s.size := by omega
  by_cases c3 : (s[0].toNat : Int) = 47
  · have e3 : s[0] = 47 := UInt8.toNat_inj.1 (by simpa using (by omega : s[0].toNat = 47))
    rw [pathS_mid s (by rw [hd, e3]) (by omega)]
    exact l5Path_mid s w (by omega) c3 (by omega)
  · rw [pathS_first s (by rw [hd]; intro e; exact c3 (by rw [Option.some.inj e]; rfl))]
    have c3' : ((s[0].toNat : Int) == 47) = false := by simpa using c3
    clear hd
    go_enter Tryz.func68, Tryz.ntmps68
    go_wp2
    go_ret
    exact ⟨rfl, rfl⟩
end Go.Proofs.YtojcjpdgjohldaaGreatDoor
/-
  isHost and isPath: what they answer.
-/
namespace Go.Proofs.YtojcjpdgjohldaaGreatDoor
open Go.ChangeShapes Go.WideShapes Go.ChangeAt Go.RowKit
set_option maxHeartbeats 2000000 in
theorem isHostLetter_any (c : Int) (w : World) :
    Calls Tryz.prog 163 #[.int .i32 c] w fun e w' => e = .returned (.bool (hostI c)) ∧ w' = w := by
  have HE : Hid (hostI c = ((decide (97 ≤ c) && decide (c ≤ 122)) || (decide (65 ≤ c) && decide (c ≤ 90)) || (decide (48 ≤ c) && decide (c ≤ 57)) || decide (c = 46) || decide (c = 45))) := rfl
  have KEY : Hid (∀ b : Bool, hostI c = b → Ending.returned (.bool b) = .returned (.bool (hostI c))) := fun b h => by rw [h]
  by_cases e1 : c = 45
  · subst e1
    have W : Hid (hostI 45 = true) := by show _ = _; decide
    go_enter Tryz.func163, Tryz.ntmps163
    go_wp2
    go_ret
    exact ⟨KEY.out _ W.out, rfl⟩
  by_cases e2 : c = 46
  · subst e2
    have W : Hid (hostI 46 = true) := by show _ = _; decide
    go_enter Tryz.func163, Tryz.ntmps163
    go_wp2
    go_ret
    exact ⟨KEY.out _ W.out, rfl⟩
  have f1 : (c == 45) = false := by simpa using e1
  have f2 : (c == 46) = false := by simpa using e2
  by_cases c1 : c < 48
  · have W : Hid (hostI c = false) := by show _ = _; rw [HE.out]; simp; omega
    go_enter Tryz.func163, Tryz.ntmps163
    go_wp2
    go_ret
    exact ⟨KEY.out _ W.out, rfl⟩
  by_cases c2 : c ≤ 57
  · have W : Hid (hostI c = true) := by show _ = _; rw [HE.out]; simp; omega
    have d1 : decide (c ≤ 57) = true := by simpa using c2
    go_enter Tryz.func163, Tryz.ntmps163
    go_wp2
    go_ret
    exact ⟨KEY.out _ W.out, rfl⟩
  have d2 : decide (c ≤ 57) = false := by simpa using c2
  by_cases c3 : c < 65
  · have W : Hid (hostI c = false) := by show _ = _; rw [HE.out]; simp; omega
    go_enter Tryz.func163, Tryz.ntmps163
    go_wp2
    go_ret
    exact ⟨KEY.out _ W.out, rfl⟩
  by_cases c4 : c ≤ 90
  · have W : Hid (hostI c = true) := by show _ = _; rw [HE.out]; simp; omega
    have d1 : decide (c ≤ 90) = true := by simpa using c4
    go_enter Tryz.func163, Tryz.ntmps163
    go_wp2
    go_ret
    exact ⟨KEY.out _ W.out, rfl⟩
  have d4 : decide (c ≤ 90) = false := by simpa using c4
  by_cases c5 : c < 97
  · have W : Hid (hostI c = false) := by show _ = _; rw [HE.out]; simp; omega
    go_enter Tryz.func163, Tryz.ntmps163
    go_wp2
    go_ret
    exact ⟨KEY.out _ W.out, rfl⟩
  by_cases c6 : c ≤ 122
  · have W : Hid (hostI c = true) := by show _ = _; rw [HE.out]; simp; omega
    have d1 : decide (c ≤ 122) = true := by simpa using c6
    go_enter Tryz.func163, Tryz.ntmps163
    go_wp2
    go_ret
    exact ⟨KEY.out _ W.out, rfl⟩
  have d6 : decide (c ≤ 122) = false := by simpa using c6
  have W : Hid (hostI c = false) := by show _ = _; rw [HE.out]; simp; omega
  go_enter Tryz.func163, Tryz.ntmps163
  go_wp2
  go_ret
  exact ⟨KEY.out _ W.out, rfl⟩
theorem below_iter (w : World) (s : ByteArray) (pos : Nat) : Below w.heap.size w (w.iter s pos) := (Below.refl _ _).alloc (Nat.le_refl _) _
theorem rune_host (s : ByteArray) (pos : Nat) (h : pos < s.size) : hostI ((Utf8.decode s pos).1 : Int) = hostI (s[pos].toNat : Int) := by
  by_cases ha : (s[pos]'h).toNat < 128
  · rw [decode_ascii s pos h ha]
  · have := (decode_high s pos h (by omega)).1
    rw [hostI_big _ (by omega), hostI_big _ (by omega)]
theorem host_ascii {c : Nat} (h : hostI (c : Int) = true) : c < 128 := by
  by_cases k : c < 128
  · exact k
  · rw [hostI_big _ (by omega)] at h; cases h
set_option maxHeartbeats 4000000 in
set_option maxRecDepth 100000 in
theorem isHost_mid (s : ByteArray) (w : World) (h1 : 1 ≤ s.size) (h2 : s.size ≤ 60) :
    Calls Tryz.prog 121 #[.string s] w fun e w' => e = .returned (.bool (allP hostI s.data.toList)) ∧ Below w.heap.size w w' := by
  have g1 : ¬ (s.size : Int) < 1 := by omega
  have g2 : ¬ (60 : Int) < s.size := by omega
  go_enter Tryz.func121, Tryz.ntmps121
  go_wp2
  go_loopw [2] (fun b w' => ∃ pos : Nat, b = .bool false ∧ w' = w.iter s pos ∧ pos ≤ s.size ∧ allP hostI (s.data.toList.take pos) = true) (fun _ w' => s.size - w'.iterPos w.heap.size)
  case atStart => exact ⟨0, rfl, rfl, Nat.zero_le _, rfl⟩
  case round =>
    obtain ⟨pos, rfl, rfl, hp, hall⟩ := hrel
    by_cases hlt : pos < s.size
    · have hnx : ∀ ty, (Instr.next (.pointer (some ⟨w.heap.size, 0, none⟩)) true ty).run Tryz.prog (w.iter s pos) = _ := fun ty => run_next_any w s pos ty hlt
      have HR := rune_host s pos hlt
      have CL := fun W => isHostLetter_any ((Utf8.decode s pos).1 : Int) W
      cases hw : hostI (s[pos].toNat : Int)
      · have HN : Hid (allP hostI s.data.toList = false) := allP_not hostI s pos hlt hw
        rw [hw] at HR
        simp only [HR] at CL
        clear hall hw HR
        generalize Utf8.decode s pos = D at *
        go_wp2_with fail
        refine (CL _).mono ?_
        rintro e w' ⟨rfl, rfl⟩
        go_wp2_with fail
        go_ret
        exact ⟨ret_bool HN.out.symm, below_iter _ _ _⟩
      · have HA : Hid (allP hostI (s.data.toList.take (pos + 1)) = true) := by
          show _ = _
          rw [take_snoc s pos hlt, allP_snoc, hall, hw]; rfl
        have hd := decode_ascii s pos hlt (host_ascii hw)
        rw [hw] at HR
        simp only [HR] at CL
        rw [hd] at hnx CL
        clear hall hw HR hd
        simp only at hnx CL
        go_wp2_with fail
        refine (CL _).mono ?_
        rintro e w' ⟨rfl, rfl⟩
        go_wp2_with fail
        go_roundw
        case rel => exact ⟨pos + 1, rfl, rfl, by omega, HA.out⟩
        case measure => simp; omega
    · have hnx : ∀ ty, (Instr.next (.pointer (some ⟨w.heap.size, 0, none⟩)) true ty).run Tryz.prog (w.iter s pos) = _ := fun ty => run_next_end w s pos ty hlt
      have ek : s.data.toList.take pos = s.data.toList := List.take_of_length_le (by simp; omega)
      rw [ek] at hall
      have HN : Hid (allP hostI s.data.toList = true) := hall
      clear ek hall
      go_wp2
      go_ret
      exact ⟨ret_bool HN.out.symm, below_iter _ _ _⟩
set_option maxHeartbeats 1000000 in
theorem isHost_any (s : ByteArray) (w : World) :
    Calls Tryz.prog 121 #[.string s] w fun e w' => e = .returned (.bool (hostS s)) ∧ Below w.heap.size w w' := by
  by_cases c1 : s.size < 1
  · rw [hostS_short s c1]
    have hh : (s.size : Int) < 1 := by omega
    go_enter Tryz.func121, Tryz.ntmps121
    go_wp2
    go_ret
    exact ⟨rfl, Below.refl _ _⟩
  by_cases c2 : 60 < s.size
  · rw [hostS_long s c2]
    have hh : (60 : Int) < s.size := by omega
    have h1 : ¬ (s.size : Int) < 1 := by omega
    go_enter Tryz.func121, Tryz.ntmps121
    go_wp2
    go_ret
    exact ⟨rfl, Below.refl _ _⟩
  rw [hostS_mid s (by omega) (by omega)]
  exact isHost_mid s w (by omega) (by omega)
/-! ### the bytes of a path -/
set_option maxHeartbeats 1000000 in
theorem hasOnly_gen (p : Int → Bool) (hp : ∀ c, 128 ≤ c → p c = false) (s : ByteArray) (cs : Array Value) (w : World) (hs : s.size ≤ 1000) (hcs : ∀ i : Nat, i < 128 → cs[i]? = some (.bool (p (i : Int)))) :
    Calls Tryz.prog 133 #[.string s, .agg cs] w fun e w' => e = .returned (.bool (allP p s.data.toList)) ∧ Below w.heap.size w w' := by
  have hcell : ∀ i : Nat, i < 128 → (w.alloc (.cells cs 152)).cell? ⟨w.heap.size, i, none⟩ = some (.bool (p (i : Int))) := fun i hi => by
    rw [World.cell?_alloc_mark]; exact hcs i hi
  have HC : Hid (∀ i : Nat, i < 128 → (w.alloc (.cells cs 152)).cell? ⟨w.heap.size, i, none⟩ = some (.bool (p (i : Int)))) := hcell
  have HP : Hid (∀ c, 128 ≤ c → p c = false) := hp
  clear hcell hcs hp
  go_enter Tryz.func133, Tryz.ntmps133
  go_wp2
  go_loop [9] (fun i => ∃ k : Nat, k ≤ s.size ∧ i = .int .i64 k ∧ allP p (s.data.toList.take k) = true) (fun i => s.size - (intOf i).toNat)
  case atStart => exact ⟨0, Nat.zero_le _, rfl, rfl⟩
  case round =>
    obtain ⟨k, hk, rfl, hall⟩ := hrel
    by_cases hlt : k < s.size
    · have hb : ((s[k].toNat : Nat) : Int) < 256 := by have := s[k].toNat_lt; omega
      by_cases hbig : 128 ≤ (s[k].toNat : Int)
      · have HN : Hid (allP p s.data.toList = false) := allP_not p s k hlt (HP.out _ hbig)
        clear hall
        go_wp2
        go_ret
        exact ⟨ret_bool HN.out.symm, (Below.refl _ _).alloc (Nat.le_refl _) _⟩
      · have hc := HC.out s[k].toNat (by omega)
        cases hw : p (s[k].toNat : Int)
        · have HN : Hid (allP p s.data.toList = false) := allP_not p s k hlt hw
          rw [hw] at hc
          clear hall hw
          go_wp2
          go_ret
          exact ⟨ret_bool HN.out.symm, (Below.refl _ _).alloc (Nat.le_refl _) _⟩
        · have HA : Hid (allP p (s.data.toList.take (k + 1)) = true) := by
            show _ = _
            rw [take_snoc s k hlt, allP_snoc, hall, hw]; rfl
          rw [hw] at hc
          clear hall hw
          go_wp2
          go_round
          case rel => exact ⟨k + 1, by omega, by go_num, HA.out⟩
          case measure => simp [intOf]; omega
    · have ek : s.data.toList.take k = s.data.toList := List.take_of_length_le (by simp; omega)
      rw [ek] at hall
      have HN : Hid (allP p s.data.toList = true) := hall
      clear ek hall
      go_wp2
      go_ret
      exact ⟨ret_bool HN.out.symm, (Below.refl _ _).alloc (Nat.le_refl _) _⟩
end Go.Proofs.YtojcjpdgjohldaaGreatDoor
/-
  pathBytes: the word bytes and ten marks; isPath.
-/
namespace Go.Proofs.YtojcjpdgjohldaaGreatDoor
open Go.ChangeShapes Go.WideShapes Go.ChangeAt Go.RowKit
def marksS : ByteArray := ⟨#[47, 63, 61, 38, 58, 64, 44, 59, 40, 41]⟩
def marksN : List Nat := [47, 63, 61, 38, 58, 64, 44, 59, 40, 41]
def markAt (pos : Nat) : Nat := marksN.getD pos 0
theorem markAt_eq (pos : Nat) (h : pos < marksS.size) : (marksS[pos]'h).toNat = markAt pos := by
  have : pos < 10 := h
  match pos, this with
  | 0, _ | 1, _ | 2, _ | 3, _ | 4, _ | 5, _ | 6, _ | 7, _ | 8, _ | 9, _ => rfl
theorem markAt_lt (pos : Nat) : markAt pos < 128 := by
  by_cases h : pos < 10
  · match pos, h with
    | 0, _ | 1, _ | 2, _ | 3, _ | 4, _ | 5, _ | 6, _ | 7, _ | 8, _ | 9, _ => decide
  · unfold markAt
    rw [List.getD_eq_getElem?_getD, List.getElem?_eq_none (by simp [marksN]; omega)]
    decide
def pathAt (pos i : Nat) : Bool := (marksN.take pos).contains i || wordI (i : Int)
theorem pathAt_zero (i : Nat) : pathAt 0 i = wordI (i : Int) := rfl
theorem pathAt_end (i : Nat) : pathAt 10 i = pathI (i : Int) := rfl
theorem take_marks (pos i : Nat) (h : pos < 10) : (marksN.take (pos + 1)).contains i = ((marksN.take pos).contains i || i == markAt pos) := by
  have e : marksN.take (pos + 1) = marksN.take pos ++ [markAt pos] := by
    match pos, h with
    | 0, _ | 1, _ | 2, _ | 3, _ | 4, _ | 5, _ | 6, _ | 7, _ | 8, _ | 9, _ => rfl
  rw [e, Bool.eq_iff_iff]
  simp
theorem pathAt_same (pos : Nat) (h : pos < 10) : pathAt (pos + 1) (markAt pos) = true := by
  rw [pathAt, take_marks pos _ h]; simp
theorem pathAt_other (pos i : Nat) (h : pos < 10) (hi : i ≠ markAt pos) : pathAt (pos + 1) i = pathAt pos i := by
  rw [pathAt, take_marks pos _ h, beq_eq_false_iff_ne.2 hi, Bool.or_false]; rfl
structure PathW (w : World) (pos : Nat) (wr : World) : Prop where
  it : wr.heap[w.heap.size + 2]? = some (.stringIter marksS pos)
  b0 : wr.heap[w.heap.size]? = some (.cells Tryz.zeroCells152 152 (0, 0))
  b1 : ∃ cs, wr.heap[w.heap.size + 1]? = some (.cells cs 152 (0, 0)) ∧ cs.size = 128 ∧ ∀ i : Nat, i < 128 → cs[i]? = some (.bool (pathAt pos i))
  le : pos ≤ 10
  bel : Below w.heap.size w wr
theorem PathW.cell {w wr : World} {pos : Nat} (h : PathW w pos wr) (i : Nat) (hi : i < 128) : wr.cell? ⟨w.heap.size + 1, i, none⟩ = some (.bool (pathAt pos i)) ∧ wr.frozen? ⟨w.heap.size + 1, i, none⟩ = false := by
  obtain ⟨cs, h1, h2, h3⟩ := h.b1
  exact ⟨by simp [World.cell?, h1, h3 i hi], by simp [World.frozen?, h1]⟩
theorem PathW.next {w wr : World} {pos : Nat} (h : PathW w pos wr) (hp : pos < 10) : PathW w (pos + 1) ((wr.iterAt (w.heap.size + 2) marksS (pos + 1)).setCell ⟨w.heap.size + 1, markAt pos, none⟩ (.bool true)) := by
  obtain ⟨cs, h1, h2, h3⟩ := h.b1
  have o : ∀ k, k ≠ w.heap.size + 2 → (wr.iterAt (w.heap.size + 2) marksS (pos + 1)).heap[k]? = wr.heap[k]? := fun k hk => Lib.iterAt_other _ _ _ _ _ hk
  have h1' : (wr.iterAt (w.heap.size + 2) marksS (pos + 1)).heap[w.heap.size + 1]? = some (.cells cs 152 (0, 0)) := by rw [o _ (by omega)]; exact h1
  refine ⟨?_, ?_, ⟨_, heap_setCell_same _ _ _ _ _ _ h1', by simpa using h2, fun i hi => ?_⟩, by omega, ?_⟩
  · rw [heap_setCell_other _ _ _ _ (by simp)]; exact Lib.iterAt_heap _ _ _ _ _ h.it
  · rw [heap_setCell_other _ _ _ _ (by simp), o _ (by omega)]; exact h.b0
  · by_cases e : i = markAt pos
    · subst e
      rw [Array.getElem?_setIfInBounds_self_of_lt (by omega), pathAt_same pos hp]
    · rw [Array.getElem?_setIfInBounds_ne (by omega), h3 i hi, pathAt_other pos i hp e]
  · refine Below.setCell ?_ (by simp) _
    exact ⟨h.bel.os, h.bel.tape, h.bel.output, by simpa [World.iterAt] using h.bel.size, fun k hk => by rw [o k (by omega)]; exact h.bel.block k hk⟩
theorem zeroSet_size : (Tryz.zeroCells152).size = 128 := by kernel_rfl
theorem all_bools {cs : Array Value} {f : Nat → Bool} (hsz : cs.size = 128) (h : ∀ i : Nat, i < 128 → cs[i]? = some (.bool (f i))) : cs.all (·.oneCell') = true := by
  rw [Array.all_eq_true]
  intro i hi
  have e := h i (by omega)
  rw [Array.getElem?_eq_getElem hi] at e
  rw [Option.some.inj e]; rfl
theorem path_start {w : World} {cs : Array Value} (hsz : cs.size = 128) (hcs : ∀ i : Nat, i < 128 → cs[i]? = some (.bool (wordI (i : Int)))) :
    PathW w 0 ((((w.alloc (.cells Tryz.zeroCells152 152)).alloc (.cells Tryz.zeroCells152 152)).setRow (w.heap.size + 1) cs).iter marksS 0) := by
  have hz : ((w.alloc (.cells Tryz.zeroCells152 152)).alloc (.cells Tryz.zeroCells152 152)).heap.size = w.heap.size + 2 := by simp
  have h1 : ((w.alloc (.cells Tryz.zeroCells152 152)).alloc (.cells Tryz.zeroCells152 152)).heap[w.heap.size + 1]? = some (.cells Tryz.zeroCells152 152 (0, 0)) := by
    show ((w.heap.push _).push _)[w.heap.size + 1]? = _
    rw [Array.getElem?_push, if_pos (by simp)]
  have h0 : ((w.alloc (.cells Tryz.zeroCells152 152)).alloc (.cells Tryz.zeroCells152 152)).heap[w.heap.size]? = some (.cells Tryz.zeroCells152 152 (0, 0)) := by
    show ((w.heap.push _).push _)[w.heap.size]? = _
    rw [Array.getElem?_push, if_neg (by simp), Array.getElem?_push, if_pos rfl]
  have hold : ∀ k, k < w.heap.size → ((w.alloc (.cells Tryz.zeroCells152 152)).alloc (.cells Tryz.zeroCells152 152)).heap[k]? = w.heap[k]? := fun k hk => by
    rw [Below.heap_alloc _ _ _ (by simp; omega), Below.heap_alloc _ _ _ hk]
  have hb : Below w.heap.size w ((w.alloc (.cells Tryz.zeroCells152 152)).alloc (.cells Tryz.zeroCells152 152)) := ((Below.refl _ _).alloc (Nat.le_refl _) _).alloc (by simp) _
  generalize ((w.alloc (.cells Tryz.zeroCells152 152)).alloc (.cells Tryz.zeroCells152 152)) = W at *
  have hs : (W.setRow (w.heap.size + 1) cs).heap.size = w.heap.size + 2 := by rw [size_setRow]; exact hz
  refine ⟨?_, ?_, ⟨cs, ?_, hsz, fun i hi => by rw [hcs i hi, pathAt_zero]⟩, by omega, ?_⟩
  · rw [← hs]; exact World.iter_heap _ _ _
  · show ((W.setRow (w.heap.size + 1) cs).alloc _).heap[w.heap.size]? = _
    rw [Below.heap_alloc _ _ _ (by omega), setRow_other _ _ _ _ (by omega)]; exact h0
  · show ((W.setRow (w.heap.size + 1) cs).alloc _).heap[w.heap.size + 1]? = _
    rw [Below.heap_alloc _ _ _ (by omega)]; exact setRow_heap _ _ _ _ _ _ h1
  · exact (below_setRow hb (by omega) cs).alloc (by omega) _
set_option maxHeartbeats 4000000 in
set_option maxRecDepth 100000 in
theorem pathBytes_any (w : World) (hset : SetIs w) :
    Calls Tryz.prog 165 #[] w fun e w' => (∃ cs, e = .returned (.agg cs) ∧ ∀ i : Nat, i < 128 → cs[i]? = some (.bool (pathI (i : Int)))) ∧ Below w.heap.size w w' := by
  obtain ⟨cs, tt, fr, hg, hsz, hcs⟩ := hset
  have HI : Hid ((Tryz.prog.info? 152).map (·.size) = some cs.size) := by
    show _ = _
    rw [infoSet, hsz]
  have HA : Hid (cs.all (·.oneCell') = true) := all_bools hsz hcs
  have HZ : Hid ((Tryz.zeroCells152).size = cs.size) := by show _ = _; rw [zeroSet_size, hsz]
  have HP : Hid (PathW w 0 _) := path_start hsz hcs
  have HG : Hid ((w.alloc (.cells Tryz.zeroCells152 152)).heap[4]? = some (.cells cs tt fr)) := by
    show _ = _
    rw [Below.heap_alloc _ _ _ (Array.getElem?_eq_some_iff.1 hg).1]; exact hg
  have HG1 : Hid (((w.alloc (.cells Tryz.zeroCells152 152)).alloc (.cells Tryz.zeroCells152 152)).heap[w.heap.size + 1]? = some (.cells Tryz.zeroCells152 152 (0, 0))) := by
    show ((w.heap.push _).push _)[w.heap.size + 1]? = _
    rw [Array.getElem?_push, if_pos (by simp)]
  clear hg hsz hcs
  go_enter Tryz.func165, Tryz.ntmps165
  go_wp2_with (first
    | refine wpList_load_row rfl 152 (.global 4) rfl 4 rfl tt cs fr _ HG.out Tryz.underlying152 rfl HI.out ?_
    | refine wpList_store_row rfl 152 (.tmp 1) (.tmp 4) rfl (w.heap.size + 1) cs (by rfl) (by rfl) 152 _ HG1.out HI.out HZ.out HA.out ?_)
  clear HG HG1 HI HA HZ
  go_loopw [3] (fun _ wr => ∃ pos, PathW w pos wr) (fun _ wr => 10 - wr.iterPos (w.heap.size + 2))
  case atStart => exact ⟨0, HP.out⟩
  case round =>
    clear HP
    obtain ⟨pos, hP⟩ := hrel
    have HP : Hid (PathW w pos wr) := hP
    by_cases hlt : pos < 10
    · have hp' : pos < marksS.size := hlt
      have hnx : ∀ ty, (Instr.next (.pointer (some ⟨w.heap.size + 1 + 1, 0, none⟩)) true ty).run Tryz.prog wr = .ok (.tuple #[.bool true, .int .i64 pos, .int .i32 (markAt pos : Int)]) (wr.iterAt (w.heap.size + 2) marksS (pos + 1)) := fun ty => by
        have := Lib.run_next_ascii_at (P := Tryz.prog) wr (w.heap.size + 2) marksS pos ty hP.it hp' (by rw [markAt_eq pos hp']; exact markAt_lt pos)
        rw [markAt_eq pos hp'] at this
        exact this
      have HN : Hid (PathW w (pos + 1) ((wr.iterAt (w.heap.size + 2) marksS (pos + 1)).setCell ⟨w.heap.size + 1, markAt pos, none⟩ (.bool true))) := hP.next hlt
      have hc : (wr.iterAt (w.heap.size + 2) marksS (pos + 1)).cell? ⟨w.heap.size + 1, markAt pos, none⟩ = some (.bool (pathAt pos (markAt pos))) := by
        rw [← (hP.cell (markAt pos) (markAt_lt pos)).1]
        simp only [World.cell?]
        rw [Lib.iterAt_other _ _ _ _ _ (by omega)]
      have hf : (wr.iterAt (w.heap.size + 2) marksS (pos + 1)).frozen? ⟨w.heap.size + 1, markAt pos, none⟩ = false := by
        rw [← (hP.cell (markAt pos) (markAt_lt pos)).2]
        simp only [World.frozen?]
        rw [Lib.iterAt_other _ _ _ _ _ (by omega)]
      have hm := markAt_lt pos
      have HQ : Hid (wr.iterPos (w.heap.size + 2) = pos) := by
        show _ = _
        unfold World.iterPos
        rw [hP.it]
      have HQ2 : Hid (((wr.iterAt (w.heap.size + 2) marksS (pos + 1)).setCell ⟨w.heap.size + 1, markAt pos, none⟩ (.bool true)).iterPos (w.heap.size + 2) = pos + 1) := by
        show _ = _
        unfold World.iterPos
        rw [HN.out.it]
      clear hP hp'
      generalize wr.iterAt (w.heap.size + 2) marksS (pos + 1) = W2 at *
      generalize markAt pos = c at *
      generalize pathAt pos c = bb at *
      go_wp2_with fail
      go_roundw
      case rel => exact ⟨pos + 1, HN.out⟩
      case measure => rw [HQ.out, HQ2.out]; omega
    · have hnx : ∀ ty, (Instr.next (.pointer (some ⟨w.heap.size + 1 + 1, 0, none⟩)) true ty).run Tryz.prog wr = .ok (.tuple #[.bool false]) wr := fun ty => Lib.run_next_end_at (P := Tryz.prog) wr (w.heap.size + 2) marksS pos ty hP.it (fun h => hlt h)
      have e10 : pos = 10 := by have := hP.le; omega
      subst e10
      obtain ⟨cs', h1, h2, h3⟩ := hP.b1
      have HI : Hid ((Tryz.prog.info? 152).map (·.size) = some cs'.size) := by
        show _ = _
        rw [infoSet, h2]
      have HA : Hid (cs'.all (·.oneCell') = true) := all_bools h2 h3
      have HZ : Hid ((Tryz.zeroCells152).size = cs'.size) := by show _ = _; rw [zeroSet_size, h2]
      have H1 : Hid (wr.heap[w.heap.size + 1]? = some (.cells cs' 152 (0, 0))) := h1
      have H0 : Hid (wr.heap[w.heap.size]? = some (.cells Tryz.zeroCells152 152 (0, 0))) := hP.b0
      have H3 : Hid (∀ i : Nat, i < 128 → cs'[i]? = some (.bool (pathI (i : Int)))) := fun i hi => by rw [h3 i hi, pathAt_end]
      have HB : Hid (Below w.heap.size w (wr.setRow w.heap.size cs')) := below_setRow hP.bel (Nat.le_refl _) cs'
      clear h1 h2 h3 hP HP
      go_wp2_with (first
        | refine wpList_load_row rfl 152 (.tmp 1) rfl (w.heap.size + 1) (by rfl) 152 cs' (0, 0) _ H1.out Tryz.underlying152 rfl HI.out ?_
        | refine wpList_store_row rfl 152 (.tmp 0) (.tmp 11) rfl w.heap.size cs' (by rfl) (by rfl) 152 _ H0.out HI.out HZ.out HA.out ?_)
      exact bodyPost_ret (v := .agg cs') (results_cell_row Tryz.results165 _ _ w.heap.size 152 cs' (0, 0) _ (by rfl) (setRow_heap _ _ _ _ _ _ H0.out) Tryz.underlying152 rfl HI.out) rfl ⟨⟨cs', rfl, H3.out⟩, HB.out⟩
set_option maxHeartbeats 2000000 in
theorem isPath_any (s : ByteArray) (w : World) (hset : SetIs w) (hs : s.size ≤ 1048576) :
    Calls Tryz.prog 122 #[.string s] w fun e w' => e = .returned (.bool (pathS s)) ∧ Below w.heap.size w w' := by
  have CP := Any.strings_HasPrefix Tryz.lays99 s ⟨#[47]⟩ w
  have e : Lib.hasPrefix s.data.toList [47] = decide (s.data.toList.head? = some 47) := by
    unfold Lib.hasPrefix
    cases s.data.toList with
    | nil => rfl
    | cons x l =>
      rw [Bool.eq_iff_iff]
      simp [List.isPrefixOf]
      exact ⟨fun h => h.symm, fun h => h.symm⟩
  have CP1 : Calls Tryz.prog 164 #[.string s, .string ⟨#[47]⟩] w fun e w' => e = .returned (.bool (decide (s.data.toList.head? = some 47))) ∧ w' = w := by rw [← e]; exact CP
  clear CP e
  by_cases c1 : s.data.toList.head? = some 47
  · rw [decide_eq_true c1] at CP1
    by_cases c2 : 100 < s.size
    · have HE : Hid (pathS s = false) := pathS_long s c2
      have g : decide ((s.size : Int) ≤ 100) = false := by simp; omega
      clear c1 hset
      go_enter Tryz.func122, Tryz.ntmps122
      go_wp2_with (go_at_call 164; refine CP1.mono ?_; rintro e w' ⟨rfl, rfl⟩)
      go_ret
      exact ⟨ret_bool HE.out.symm, Below.refl _ _⟩
    · have HE : Hid (pathS s = allP pathI s.data.toList) := pathS_mid s c1 (by omega)
      have g : decide ((s.size : Int) ≤ 100) = true := by simp; omega
      have C1 := pathBytes_any w hset
      have C2 : Hid (∀ (W : World) cs, (∀ i : Nat, i < 128 → cs[i]? = some (.bool (pathI (i : Int)))) → Calls Tryz.prog 133 #[.string s, .agg cs] W fun e w' => e = .returned (.bool (allP pathI s.data.toList)) ∧ Below W.heap.size W w') := fun W cs h => hasOnly_gen pathI pathI_big s cs W (by omega) h
      clear c1 hset c2
      go_enter Tryz.func122, Tryz.ntmps122
      go_wp2_with (go_at_call 164; refine CP1.mono ?_; rintro e w' ⟨rfl, hw⟩; obtain rfl := hw.symm)
      refine C1.mono ?_
      rintro e w1 ⟨⟨cs, rfl, hcs⟩, hb1⟩
      have C3 := C2.out w1 cs hcs
      have HB : Hid (Below w.heap.size w w1) := hb1
      clear C1 C2 hcs hb1
      go_wp2_with fail
      refine C3.mono ?_
      rintro e w2 ⟨rfl, hb2⟩
      have HB2 : Hid (Below w.heap.size w w2) := HB.out.trans (hb2.mono HB.out.size)
      clear hb2 HB C3
      go_wp2_with fail
      go_ret
      exact ⟨ret_bool HE.out.symm, HB2.out⟩
  · rw [decide_eq_false c1] at CP1
    have HE : Hid (pathS s = false) := pathS_first s c1
    clear c1 hset
    go_enter Tryz.func122, Tryz.ntmps122
    go_wp2_with (go_at_call 164; refine CP1.mono ?_; rintro e w' ⟨rfl, rfl⟩)
    go_ret
    exact ⟨ret_bool HE.out.symm, Below.refl _ _⟩
end Go.Proofs.YtojcjpdgjohldaaGreatDoor
/-
  errors.Is at a sentinel: the same one, none, another one.
-/
namespace Go.Proofs.YtojcjpdgjohldaaGreatDoor
open Go.RowKit Go.Extern.Stop Go.Stop Go.Extern
theorem erTypeOf (v : Value) (w : World) : (Extern.ReflectliteType.typeOf #[.iface 261 v]).run Tryz.prog w = .ok (.iface 203 (.agg #[.pointer (some ⟨11, 261, none⟩)])) w := by kernel_rfl
noncomputable def erM (t : TypeId) : Sem Value := do Go.Extern.Rtype.noPackHeld "Comparable" t; pure (.bool (← typeInfo t).comparable)
theorem erComparable (w : World) : (Extern.ReflectliteType.method erM #[.agg #[.pointer (some ⟨11, 261, none⟩)]]).run Tryz.prog w = .ok (.bool true) w := by kernel_rfl
theorem erMethod (v : Value) (w : World) : (Go.method 395 203 v "Comparable").run Tryz.prog w = .ok (264, v) w := by kernel_rfl
theorem erComp : (Tryz.prog.info? 261).map (·.comparable) = some true := by kernel_rfl
theorem erSize : (Tryz.prog.info? 284).map (·.size) = some 1 := by kernel_rfl
theorem erNoIs (v : Value) (xT : TypeId) (w : World) : (Instr.typeAssert (.iface 261 v) xT 205 true).run Tryz.prog w = .ok (.tuple #[.nilIface, .bool false]) w := run_typeAssert_lacksB Tryz.underlying205 (by kernel_rfl) (by kernel_rfl) v xT w
theorem erNoUnwrap (v : Value) (xT : TypeId) (w : World) : (Instr.typeAssert (.iface 261 v) xT 208 true).run Tryz.prog w = .ok (.tuple #[.nilIface, .bool false]) w := run_typeAssert_lacksB Tryz.underlying208 (by kernel_rfl) (by kernel_rfl) v xT w
theorem erNoUnwraps (v : Value) (xT : TypeId) (w : World) : (Instr.typeAssert (.iface 261 v) xT 210 true).run Tryz.prog w = .ok (.tuple #[.nilIface, .bool false]) w := run_typeAssert_lacksB Tryz.underlying210 (by kernel_rfl) (by kernel_rfl) v xT w
set_option maxRecDepth 100000 in
theorem is_same (a : Addr) (w : World) :
    Calls Tryz.prog 120 #[.iface 261 (.pointer (some a)), .iface 261 (.pointer (some a))] w fun e w' => e = .returned (.bool true) ∧ w' = w := by
  obtain ⟨i, hi, hcmp⟩ := Option.map_eq_some_iff.1 erComp
  obtain ⟨j, hj, hjs⟩ := Option.map_eq_some_iff.1 erSize
  have h8 := @run_callFunc_extern Tryz.prog 161 _ Extern.ReflectliteType.typeOf Tryz.func161 (by kernel_rfl) (by kernel_rfl) (by kernel_rfl) (by kernel_rfl)
  have h32 := @run_callFunc_extern Tryz.prog 264 _ (Extern.ReflectliteType.method erM) Tryz.func264 (by kernel_rfl) (by kernel_rfl) (by kernel_rfl) (by kernel_rfl)
  have tT := erTypeOf
  have cT := erComparable
  have mR := erMethod
  have heq := run_eql_iface_ptr_same (P := Tryz.prog) w a Tryz.underlying93 Tryz.underlying261 hi hcmp hj
  go_enter Tryz.func120, Tryz.ntmps120
  go_wp2
  refine wp_loop_rounds 1 ?_
  rw [rounds_succ]
  go_wp2
  go_ret
  exact ⟨rfl, rfl⟩
set_option maxRecDepth 100000 in
theorem is_other (a b : Addr) (ca cb : Array Value) (ta tb : TypeId) (w : World) (hne : a ≠ b) (ha : w.heap[a.block]? = some (.cells ca ta (0, 0))) (hb : w.heap[b.block]? = some (.cells cb tb (0, 0))) :
    Calls Tryz.prog 120 #[.iface 261 (.pointer (some a)), .iface 261 (.pointer (some b))] w fun e w' => e = .returned (.bool false) ∧ w' = w := by
  obtain ⟨i, hi, hcmp⟩ := Option.map_eq_some_iff.1 erComp
  obtain ⟨j, hj, hjs⟩ := Option.map_eq_some_iff.1 erSize
  have h8 := @run_callFunc_extern Tryz.prog 161 _ Extern.ReflectliteType.typeOf Tryz.func161 (by kernel_rfl) (by kernel_rfl) (by kernel_rfl) (by kernel_rfl)
  have h32 := @run_callFunc_extern Tryz.prog 264 _ (Extern.ReflectliteType.method erM) Tryz.func264 (by kernel_rfl) (by kernel_rfl) (by kernel_rfl) (by kernel_rfl)
  have tT := erTypeOf
  have cT := erComparable
  have mR := erMethod
  have nE := erNoIs
  have uE := erNoUnwrap
  have vE := erNoUnwraps
  have heq := run_eql_iface_ptr_other (P := Tryz.prog) w Tryz.underlying93 Tryz.underlying261 hi hcmp hj (by rw [hjs]; decide) hne ha hb
  go_enter Tryz.func120, Tryz.ntmps120
  go_wp2
  refine wp_loop_rounds 1 ?_
  rw [rounds_succ]
  go_wp2
  go_ret
  exact ⟨rfl, rfl⟩
end Go.Proofs.YtojcjpdgjohldaaGreatDoor
/-
  The four errors of chapter 5 in memory: what the row's list gives of them; codeOf.
-/
namespace Go.Proofs.YtojcjpdgjohldaaGreatDoor
open Go.ChangeShapes Go.WideShapes Go.ChangeAt Go.RowKit
theorem laid_sentinels4 {P : Program} {n0 n1 n2 n3 nm : String} {x0 x1 x2 x3 : List UInt8} {r : List (String × DataW Unit)} {W : World} {g0 g1 g2 g3 : Nat} {ti tp te ts : TypeId} {ms : Array (String × TypeId)} {f : Field}
    (h : laidMet P ((n0, .iface nm (.ptr (.agg [.lit (.string x0)]))) :: (n1, .iface nm (.ptr (.agg [.lit (.string x1)]))) :: (n2, .iface nm (.ptr (.agg [.lit (.string x2)]))) :: (n3, .iface nm (.ptr (.agg [.lit (.string x3)]))) :: r) W)
    (hg0 : P.globalNamed n0 = some g0) (ht0 : (P.globals[g0]?).map (·.type) = some ti) (hg1 : P.globalNamed n1 = some g1) (ht1 : (P.globals[g1]?).map (·.type) = some ti) (hg2 : P.globalNamed n2 = some g2) (ht2 : (P.globals[g2]?).map (·.type) = some ti) (hg3 : P.globalNamed n3 = some g3) (ht3 : (P.globals[g3]?).map (·.type) = some ti)
    (hi : P.underlying ti = some (.interface ms)) (hrow : ∀ u, P.typeName? 3 u = some nm → u = tp) (hp : P.underlying tp = some (.pointer te)) (he : P.underlying te = some (.struct #[f])) (hft : f.type = ts) (hfo : f.offset = 0) (hs : P.underlying ts = some .string) (hc : P.cellsOf te = 1) (hcs : P.cellsOf ts = 1) :
    ∃ a0 a1 a2 a3 : Addr, (W.var? P n0 = some #[.iface tp (.pointer (some a0))] ∧ W.var? P n1 = some #[.iface tp (.pointer (some a1))] ∧ W.var? P n2 = some #[.iface tp (.pointer (some a2))] ∧ W.var? P n3 = some #[.iface tp (.pointer (some a3))]) ∧
      (a0 ≠ a1 ∧ a0 ≠ a2 ∧ a0 ≠ a3 ∧ a1 ≠ a2 ∧ a1 ≠ a3 ∧ a2 ≠ a3) ∧
      (∃ c t, W.heap[a0.block]? = some (.cells c t (0, 0))) ∧ (∃ c t, W.heap[a1.block]? = some (.cells c t (0, 0))) ∧ (∃ c t, W.heap[a2.block]? = some (.cells c t (0, 0))) ∧ (∃ c t, W.heap[a3.block]? = some (.cells c t (0, 0))) := by
  obtain ⟨ps, ⟨g0', t0', cs0, f0, p0, q0, hg0', ht0', hv0, hd0, ⟨g1', t1', cs1, f1, p1, q1, hg1', ht1', hv1, hd1, ⟨g2', t2', cs2, f2, p2, q2, hg2', ht2', hv2, hd2, ⟨g3', t3', cs3, f3, p3, q3, hg3', ht3', hv3, hd3, _, e3⟩, e2⟩, e1⟩, e0⟩, hnd, hrows⟩ := h
  obtain rfl := Option.some.inj (hg0.symm.trans hg0')
  obtain rfl := Option.some.inj (hg1.symm.trans hg1')
  obtain rfl := Option.some.inj (hg2.symm.trans hg2')
  obtain rfl := Option.some.inj (hg3.symm.trans hg3')
  obtain rfl := Option.some.inj (ht0.symm.trans ht0')
  obtain rfl := Option.some.inj (ht1.symm.trans ht1')
  obtain rfl := Option.some.inj (ht2.symm.trans ht2')
  obtain rfl := Option.some.inj (ht3.symm.trans ht3')
  subst e3
  subst e2
  subst e1
  subst e0
  obtain ⟨l0⟩ := cs0
  obtain ⟨l1⟩ := cs1
  obtain ⟨l2⟩ := cs2
  obtain ⟨l3⟩ := cs3
  have ok0 : ∀ u v, l0 = [.iface u v] → Value.okWide P W .any 0 u v := fun u v e => by
    subst e
    exact (hrows g0 0 (by simp [MemPlace.row])).2 u v (by simpa using World.var?_cell hg0' hv0 0)
  have ok1 : ∀ u v, l1 = [.iface u v] → Value.okWide P W .any 0 u v := fun u v e => by
    subst e
    exact (hrows g1 0 (by simp [MemPlace.row])).2 u v (by simpa using World.var?_cell hg1' hv1 0)
  have ok2 : ∀ u v, l2 = [.iface u v] → Value.okWide P W .any 0 u v := fun u v e => by
    subst e
    exact (hrows g2 0 (by simp [MemPlace.row])).2 u v (by simpa using World.var?_cell hg2' hv2 0)
  have ok3 : ∀ u v, l3 = [.iface u v] → Value.okWide P W .any 0 u v := fun u v e => by
    subst e
    exact (hrows g3 0 (by simp [MemPlace.row])).2 u v (by simpa using World.var?_cell hg3' hv3 0)
  obtain ⟨a0, s0, rfl, hc0, hs0, hz0, rfl⟩ := errorString_of_trod hi hrow hp he hft hfo hs hc hcs hd0 ok0
  obtain ⟨a1, s1, rfl, hc1, hs1, hz1, rfl⟩ := errorString_of_trod hi hrow hp he hft hfo hs hc hcs hd1 ok1
  obtain ⟨a2, s2, rfl, hc2, hs2, hz2, rfl⟩ := errorString_of_trod hi hrow hp he hft hfo hs hc hcs hd2 ok2
  obtain ⟨a3, s3, rfl, hc3, hs3, hz3, rfl⟩ := errorString_of_trod hi hrow hp he hft hfo hs hc hcs hd3 ok3
  have b0 := (hrows a0.block a0.off (by simp [MemPlace.row])).1
  have b1 := (hrows a1.block a1.off (by simp [MemPlace.row])).1
  have b2 := (hrows a2.block a2.off (by simp [MemPlace.row])).1
  have b3 := (hrows a3.block a3.off (by simp [MemPlace.row])).1
  refine ⟨a0, a1, a2, a3, ⟨hv0, hv1, hv2, hv3⟩, ⟨?_, ?_, ?_, ?_, ?_, ?_⟩, b0, b1, b2, b3⟩
  all_goals (rintro rfl; simp [MemPlace.row] at hnd)
structure Errs where
  u : Addr
  m : Addr
  b : Addr
  d : Addr
/-- The four variables hold pointers to four errors of errors.New's make. -/
structure ErrsIs (w : World) (E : Errs) : Prop where
  gU : w.cell? ⟨3, 0, none⟩ = some (.iface 261 (.pointer (some E.u)))
  gM : w.cell? ⟨0, 0, none⟩ = some (.iface 261 (.pointer (some E.m)))
  gB : w.cell? ⟨1, 0, none⟩ = some (.iface 261 (.pointer (some E.b)))
  gD : w.cell? ⟨2, 0, none⟩ = some (.iface 261 (.pointer (some E.d)))
  ne : E.u ≠ E.m ∧ E.u ≠ E.b ∧ E.u ≠ E.d ∧ E.m ≠ E.b ∧ E.m ≠ E.d ∧ E.b ≠ E.d
  hU : ∃ c t, w.heap[E.u.block]? = some (.cells c t (0, 0))
  hM : ∃ c t, w.heap[E.m.block]? = some (.cells c t (0, 0))
  hB : ∃ c t, w.heap[E.b.block]? = some (.cells c t (0, 0))
  hD : ∃ c t, w.heap[E.d.block]? = some (.cells c t (0, 0))
theorem ErrsIs.below {w w' : World} {E : Errs} (h : ErrsIs w E) (hb : Below w.heap.size w w') : ErrsIs w' E := by
  have hc : ∀ {g : Nat} {v : Value}, w.cell? ⟨g, 0, none⟩ = some v → w'.cell? ⟨g, 0, none⟩ = some v := fun {g v} e => by rw [hb.cell (block_lt_of_cell e)]; exact e
  have hh : ∀ {a : Addr}, (∃ c t, w.heap[a.block]? = some (.cells c t (0, 0))) → ∃ c t, w'.heap[a.block]? = some (.cells c t (0, 0)) := fun {a} ⟨c, t, e⟩ => ⟨c, t, by rw [hb.block a.block (Array.getElem?_eq_some_iff.1 e).1]; exact e⟩
  exact ⟨hc h.gU, hc h.gM, hc h.gB, hc h.gD, h.ne, hh h.hU, hh h.hM, hh h.hB, hh h.hD⟩
theorem erRow (u : TypeId) (h : Tryz.prog.typeName? 3 u = some "*errors.errorString") : u = 261 :=
  typeName_ptr_named (nm := "errors.errorString") (by rw [show "*" ++ "errors.errorString" = "*errors.errorString" from by decide]; kernel_rfl) (by kernel_rfl) (by decide) u (by rw [show "*" ++ "errors.errorString" = "*errors.errorString" from by decide]; exact h)
theorem erNamedU : Tryz.prog.globalNamed "loop.example/g00665/impl.errUnread" = some 3 := by kernel_rfl
theorem erTypeU : (Tryz.prog.globals[3]?).map (·.type) = some 93 := by kernel_rfl
theorem erNamedM : Tryz.prog.globalNamed "loop.example/g00665/impl.errTooMany" = some 0 := by kernel_rfl
theorem erTypeM : (Tryz.prog.globals[0]?).map (·.type) = some 93 := by kernel_rfl
theorem erNamedB : Tryz.prog.globalNamed "loop.example/g00665/impl.errBeyond" = some 1 := by kernel_rfl
theorem erTypeB : (Tryz.prog.globals[1]?).map (·.type) = some 93 := by kernel_rfl
theorem erNamedD : Tryz.prog.globalNamed "loop.example/g00665/impl.errDouble" = some 2 := by kernel_rfl
theorem erTypeD : (Tryz.prog.globals[2]?).map (·.type) = some 93 := by kernel_rfl
theorem errsIs_of {w : World} {rest : List (String × DataW Unit)} (h : laidMet Tryz.prog (("loop.example/g00665/impl.errUnread", Rows.laid_loop_example_g00665_impl_errUnread) :: ("loop.example/g00665/impl.errTooMany", Rows.laid_loop_example_g00665_impl_errTooMany) :: ("loop.example/g00665/impl.errBeyond", Rows.laid_loop_example_g00665_impl_errBeyond) :: ("loop.example/g00665/impl.errDouble", Rows.laid_loop_example_g00665_impl_errDouble) :: rest) w) : ∃ E, ErrsIs w E := by
  obtain ⟨a0, a1, a2, a3, ⟨v0, v1, v2, v3⟩, hne, h0, h1, h2, h3⟩ := laid_sentinels4 h erNamedU erTypeU erNamedM erTypeM erNamedB erTypeB erNamedD erTypeD Tryz.underlying93 erRow Tryz.underlying261 Tryz.underlying284 rfl rfl Tryz.underlying9 (by kernel_rfl) (by kernel_rfl)
  exact ⟨⟨a0, a1, a2, a3⟩, by simpa using World.var?_cell erNamedU v0 0, by simpa using World.var?_cell erNamedM v1 0, by simpa using World.var?_cell erNamedB v2 0, by simpa using World.var?_cell erNamedD v3 0, hne, h0, h1, h2, h3⟩
/-- The error of a code. -/
def errV (E : Errs) (c : Int) : Value := if c = 0 then .nilIface else if c = 2 then .iface 261 (.pointer (some E.m)) else if c = 3 then .iface 261 (.pointer (some E.b)) else if c = 6 then .iface 261 (.pointer (some E.d)) else .iface 261 (.pointer (some E.u))
theorem errV0 (E : Errs) : errV E 0 = .nilIface := rfl
theorem errV2 (E : Errs) : errV E 2 = .iface 261 (.pointer (some E.m)) := rfl
theorem errV3 (E : Errs) : errV E 3 = .iface 261 (.pointer (some E.b)) := rfl
theorem errV5 (E : Errs) : errV E 5 = .iface 261 (.pointer (some E.u)) := rfl
theorem errV6 (E : Errs) : errV E 6 = .iface 261 (.pointer (some E.d)) := rfl
end Go.Proofs.YtojcjpdgjohldaaGreatDoor
/-
  codeOf and headError.
-/
namespace Go.Proofs.YtojcjpdgjohldaaGreatDoor
open Go.ChangeShapes Go.WideShapes Go.ChangeAt Go.RowKit
set_option maxHeartbeats 1000000 in
theorem codeOf_any (E : Errs) (c : Int) (w : World) (hE : ErrsIs w E) (hc : c = 0 ∨ c = 2 ∨ c = 3 ∨ c = 5 ∨ c = 6) :
    Calls Tryz.prog 71 #[errV E c] w fun e w' => e = .returned (.int .i64 c) ∧ w' = w := by
  obtain ⟨gU, gM, gB, gD, ⟨n1, n2, n3, n4, n5, n6⟩, ⟨cu, tu, hU⟩, ⟨cm, tm, hM⟩, ⟨cb, tb, hB⟩, ⟨cd, td, hD⟩⟩ := hE
  rcases hc with rfl | rfl | rfl | rfl | rfl
  · rw [errV0]
    go_enter Tryz.func71, Tryz.ntmps71
    go_wp2_with fail
    go_ret
    exact ⟨rfl, rfl⟩
  · rw [errV2]
    have I1 := is_same E.m w
    go_enter Tryz.func71, Tryz.ntmps71
    go_wp2_with fail
    refine I1.mono ?_
    rintro e w' ⟨rfl, rfl⟩
    go_wp2_with fail
    go_ret
    exact ⟨rfl, rfl⟩
  · rw [errV3]
    have I1 := is_other E.b E.m cb cm tb tm w (Ne.symm n4) hB hM
    have I2 := is_same E.b w
    go_enter Tryz.func71, Tryz.ntmps71
    go_wp2_with fail
    refine I1.mono ?_
    rintro e w' ⟨rfl, rfl⟩
    go_wp2_with fail
    refine I2.mono ?_
    rintro e w' ⟨rfl, rfl⟩
    go_wp2_with fail
    go_ret
    exact ⟨rfl, rfl⟩
  · rw [errV5]
    have I1 := is_other E.u E.m cu cm tu tm w n1 hU hM
    have I2 := is_other E.u E.b cu cb tu tb w n2 hU hB
    have I3 := is_other E.u E.d cu cd tu td w n3 hU hD
    go_enter Tryz.func71, Tryz.ntmps71
    go_wp2_with fail
    refine I1.mono ?_
    rintro e w' ⟨rfl, rfl⟩
    go_wp2_with fail
    refine I2.mono ?_
    rintro e w' ⟨rfl, rfl⟩
    go_wp2_with fail
    refine I3.mono ?_
    rintro e w' ⟨rfl, rfl⟩
    go_wp2_with fail
    go_ret
    exact ⟨rfl, rfl⟩
  · rw [errV6]
    have I1 := is_other E.d E.m cd cm td tm w (Ne.symm n5) hD hM
    have I2 := is_other E.d E.b cd cb td tb w (Ne.symm n6) hD hB
    have I3 := is_same E.d w
    go_enter Tryz.func71, Tryz.ntmps71
    go_wp2_with fail
    refine I1.mono ?_
    rintro e w' ⟨rfl, rfl⟩
    go_wp2_with fail
    refine I2.mono ?_
    rintro e w' ⟨rfl, rfl⟩
    go_wp2_with fail
    refine I3.mono ?_
    rintro e w' ⟨rfl, rfl⟩
    go_wp2_with fail
    go_ret
    exact ⟨rfl, rfl⟩
set_option maxHeartbeats 1000000 in
theorem headError_any (E : Errs) (c : Int) (w : World) (hE : ErrsIs w E) (hc : c = 0 ∨ c = 2 ∨ c = 5) :
    Calls Tryz.prog 123 #[.int .i64 c] w fun e w' => e = .returned (errV E c) ∧ w' = w := by
  have gM := hE.gM
  have gU := hE.gU
  rcases hc with rfl | rfl | rfl
  · rw [errV0]
    go_enter Tryz.func123, Tryz.ntmps123
    go_wp2
    go_ret
    exact ⟨rfl, rfl⟩
  · rw [errV2]
    go_enter Tryz.func123, Tryz.ntmps123
    go_wp2
    go_ret
    exact ⟨rfl, rfl⟩
  · rw [errV5]
    go_enter Tryz.func123, Tryz.ntmps123
    go_wp2
    go_ret
    exact ⟨rfl, rfl⟩
end Go.Proofs.YtojcjpdgjohldaaGreatDoor
/-
  What JoinHeader answers.
-/
namespace Go.Proofs.YtojcjpdgjohldaaGreatDoor
open Go.ChangeShapes Go.WideShapes Go.ChangeAt Go.RowKit Go.Sort
theorem HeadsAt.drop {w : World} {b off : Nat} {l : List Hdr} (h : HeadsAt w b off l) (i : Nat) : HeadsAt w b (off + i * 2) (l.drop i) := by
  intro j r hr
  rw [List.getElem?_drop] at hr
  obtain ⟨a, c⟩ := h (i + j) r hr
  rw [show off + (i + j) * 2 = off + i * 2 + j * 2 from by omega] at a c
  exact ⟨a, c⟩
theorem hjoinL_len (vs : List ByteArray) (h : ∀ v ∈ vs, v.size ≤ 200) : (hjoinL vs).length ≤ vs.length * 202 := by
  unfold hjoinL
  cases vs with
  | nil => simp [Lib.join, List.intercalate]
  | cons x r =>
    rw [List.map_cons, Lib.join_length]
    have hl : ∀ (l : List ByteArray), (∀ v ∈ l, v.size ≤ 200) → Lib.lens (l.map (·.data.toList)) ≤ l.length * 200 := by
      intro l
      induction l with
      | nil => intro _; simp [Lib.lens]
      | cons y l ih =>
        intro hy
        have h1 := ih fun v hv => hy v (by simp [hv])
        have h2 := hy y (by simp)
        have h3 : y.data.toList.length = y.size := by simp
        simp only [List.map_cons, Lib.lens, List.length_cons, List.sum_cons] at h1 ⊢
        omega
    have := hl (x :: r) h
    rw [List.map_cons] at this
    simp only [List.length_cons, List.length_map, List.length_nil] at this ⊢
    omega
theorem valsOf_mem {x : ByteArray} {l : List Hdr} (hz : ∀ (i : Nat) r, l[i]? = some r → r.name.size ≤ 64 ∧ r.value.size ≤ 200) : ∀ v ∈ valsOf x l, v.size ≤ 200 := by
  intro v hv
  obtain ⟨r, hr, rfl⟩ := List.mem_map.1 hv
  obtain ⟨i, hi⟩ := List.getElem?_of_mem (List.mem_filter.1 hr).1
  exact (hz i r hi).2
theorem valsOf_len (x : ByteArray) (l : List Hdr) : (valsOf x l).length ≤ l.length := by
  unfold valsOf
  rw [List.length_map]
  exact List.length_filter_le _ _
set_option maxRecDepth 100000 in
set_option maxHeartbeats 8000000 in
theorem implJoin_found (w : World) (b off cap : Nat) (l : List Hdr) (name : ByteArray) (i : Nat) (h0 : askC l name = 0) (hf : firstAt (lowS name) l = some i) (hcap : l.length ≤ cap) (hset : SetIs w) (hat : HeadsAt w b off l) :
    Calls Tryz.prog 92 #[.slice (some ⟨b, off, none⟩) l.length cap, .string name] w fun e w' => e = .returned (.agg #[.int .i64 0, .string ⟨(hjoinL (valsOf (lowS name) l)).toArray⟩]) ∧ Below w.heap.size w w' := by
  obtain ⟨h20, hz, hnm⟩ := asked h0
  have hi : HdsIn w (some ⟨b, off, none⟩) l := .inr ⟨b, off, rfl, hat⟩
  have HA : Hid (∀ W, Below w.heap.size w W → Calls Tryz.prog 134 #[.slice (some ⟨b, off, none⟩) l.length cap, .string name] W fun e w' => e = .returned (.int .i64 0) ∧ Below W.heap.size W w') := fun W hb => by
    have := namedFault_any W (some ⟨b, off, none⟩) cap l name (by omega) (hset.below hb) (hi.keep hb)
    rw [h0] at this
    exact this
  have HP : Hid (∀ W, Below w.heap.size w W → Calls Tryz.prog 135 #[.slice (some ⟨b, off, none⟩) l.length cap] W fun e w' => e = .returned (.map (some W.heap.size)) ∧ NamesMap w' W.heap.size 20 (fun x => firstAt x l) ∧ Below W.heap.size W w') := fun W hb => firstPlaces_any W _ cap l h20 (fun i r hr => (hz i r hr).1) (hi.keep hb)
  have HS : Hid (∀ W, Calls Tryz.prog 91 #[.string name] W fun e w' => e = .returned (.string (lowS name)) ∧ Below W.heap.size W w') := fun W => smallName_any name W (by omega)
  have hil := firstAt_lt hf
  have HV : Hid (valsOf (lowS name) (l.drop i) = valsOf (lowS name) l) := (valsOf_drop hf).1
  have HD : Hid (HeadsAt w b (off + i * 2) (l.drop i)) := hat.drop i
  have HZ : Hid (∀ (j : Nat) r, (l.drop i)[j]? = some r → r.name.size ≤ 64 ∧ r.value.size ≤ 200) := fun j r hr => by
    rw [List.getElem?_drop] at hr
    exact hz _ r hr
  have HF : Hid (firstAt (lowS name) l = some i) := hf
  have sz := lowS_size name
  have hJL : (hjoinL (valsOf (lowS name) l)).length ≤ 4040 := by
    have h1 := hjoinL_len _ (valsOf_mem (x := lowS name) hz)
    have h2 := valsOf_len (lowS name) l
    have h3 : (valsOf (lowS name) l).length * 202 ≤ 20 * 202 := Nat.mul_le_mul_right _ (by omega)
    omega
  have hVL : (valsOf (lowS name) l).length ≤ 20 := Nat.le_trans (valsOf_len _ _) h20
  generalize hM : l.drop i = M at *
  have hMl : M.length = l.length - i := by rw [← hM, List.length_drop]
  clear hi hz h0 hset hat hf hM
  generalize lowS name = q at *
  have hni : i < l.length := hil
  generalize hn : l.length = n at *
  have HN : Hid (M.length = n - i) := hMl
  clear hMl hil hn
  go_enter Tryz.func92, Tryz.ntmps92
  go_wp2_with fail
  refine (HA.out _ ((Below.refl _ _).alloc (Nat.le_refl _) _)).mono ?_
  rintro e w1 ⟨rfl, hb1⟩
  rw [World.size_alloc] at hb1
  have HB1 : Hid (Below (w.heap.size + 1) (w.alloc (.cells #[.int .i64 0, .string ⟨#[]⟩] 50)) w1) := hb1
  have hz1 : w.heap.size + 1 ≤ w1.heap.size := by have := hb1.size; rwa [World.size_alloc] at this
  clear hb1 HA
  go_wp2_with fail
  refine (HS.out _).mono ?_
  rintro e w2 ⟨rfl, hb2⟩
  have HB2 : Hid (Below (w.heap.size + 1) (w.alloc (.cells #[.int .i64 0, .string ⟨#[]⟩] 50)) w2) := HB1.out.trans (hb2.mono hz1)
  have hz2 : w.heap.size + 1 ≤ w2.heap.size := Nat.le_trans hz1 hb2.size
  clear hb2 HB1 HS hz1
  go_wp2_with fail
  refine (HP.out _ (text_room HB2.out).2.2.2.2.2).mono ?_
  rintro e w3 ⟨rfl, hm3, hb3⟩
  have HB3 : Hid (Below (w.heap.size + 1) (w.alloc (.cells #[.int .i64 0, .string ⟨#[]⟩] 50)) w3) := HB2.out.trans (hb3.mono hz2)
  have hz3 : w.heap.size + 1 ≤ w3.heap.size := Nat.le_trans hz2 hb3.size
  have HM3 : Hid (NamesMap w3 w2.heap.size 20 (fun x => firstAt x l)) := hm3
  clear hb3 HB2 hm3 HP hz2
  generalize w2.heap.size = B at *
  try clear w2
  have gi0 : (0 : Int) ≤ (i : Int) := by omega
  have gi1 : (i : Int) ≤ (n : Int) := by omega
  have gi2 : (n : Int) ≤ (cap : Int) := by omega
  go_wp2_with (at_lookup; refine wpList_look_some _ rfl _ _ rfl B 20 _ rfl HM3.out q rfl (by omega) i HF.out ?_)
  clear HM3
  have hm20 : n - i ≤ 20 := by omega
  generalize n - i = m at *
  go_loopw [9, 35] (fun v j wr => ∃ (k : Nat), k ≤ m ∧ j = .int .i64 k ∧ OwnS wr (w.heap.size + 1) v (valsOf q (M.take k)) ∧ Below (w.heap.size + 1) (w.alloc (.cells #[.int .i64 0, .string ⟨#[]⟩] 50)) wr) (fun _ j _ => m - (intOf j).toNat)
  case atStart => exact ⟨0, Nat.zero_le _, rfl, OwnS.nil _ _, HB3.out⟩
  case round =>
    obtain ⟨k, hk, rfl, ho, hb⟩ := hrel
    have HO : Hid (OwnS wr (w.heap.size + 1) u9 (valsOf q (M.take k))) := ho
    have hz : w.heap.size + 1 ≤ wr.heap.size := by have := hb.size; rwa [World.size_alloc] at this
    have hwr : Below w.heap.size w wr := ((Below.refl _ _).alloc (Nat.le_refl _) _).trans (hb.mono (Nat.le_succ _))
    clear ho HB3
    by_cases hlt : k < m
    · obtain ⟨r, hr⟩ : ∃ r, M[k]? = some r := ⟨M[k]'(by have := HN.out; omega), List.getElem?_eq_getElem _⟩
      obtain ⟨p1, p3⟩ := (HD.out.keep hwr) k r hr
      obtain ⟨z1, z2⟩ := HZ.out k r hr
      have HK : Hid (M.take (k + 1) = M.take k ++ [r]) := take_hdr hr
      have hlk : (valsOf q (M.take k)).length ≤ 20 := Nat.le_trans (valsOf_len _ _) (by rw [List.length_take]; omega)
      have gk : (k : Int) < m := by omega
      clear hr HD HZ hwr
      have KY := @valsOf_yes q r (M.take k)
      have KN := @valsOf_no q r (M.take k)
      obtain ⟨rn, rv⟩ := r
      simp only at p1 p3 z1 z2 KY KN
      have SN := fun w => smallName_any rn w (by omega)
      have HSN : Hid (∀ w, Calls Tryz.prog 91 #[.string rn] w fun e w' => e = .returned (.string (lowS rn)) ∧ Below w.heap.size w w') := SN
      clear SN
      by_cases he : lowS rn = q
      · have HX : Hid (valsOf q (M.take (k + 1)) = valsOf q (M.take k) ++ [rv]) := by show _ = _; rw [HK.out]; exact KY he
        rw [he] at HSN
        clear KY KN HK he
        generalize valsOf q (M.take k) = L at *
        go_wp2_with fail
        refine (HSN.out _).mono ?_
        rintro e w4 ⟨rfl, hb4⟩
        obtain ⟨hz4, c0, c1, kb⟩ := hdr_room hb4
        have HO4 : Hid (OwnS w4 (w.heap.size + 1) u9 L) := HO.out.below kb
        have HB4 : Hid (Below (w.heap.size + 1) (w.alloc (.cells #[.int .i64 0, .string ⟨#[]⟩] 50)) w4) := hb.trans (kb.mono hz)
        have hz5 : w.heap.size + 1 ≤ w4.heap.size := Nat.le_trans hz kb.size
        clear hb4 kb hb HO p1 p3
        go_wp2_with (at_builtin; refine wpList_append_str _ rfl (.tmp 44) (.tmp 47) rfl (w.heap.size + 1) _ L rv rfl rfl HO4.out (by omega) hz5 ?_; intro v6 w6 HO6 hb6 hz6)
        go_roundw
        case rel => exact ⟨k + 1, by omega, by go_num, by rw [HX.out]; exact HO6, HB4.out.trans hb6⟩
        case measure => simp [intOf]; omega
      · have HX : Hid (valsOf q (M.take (k + 1)) = valsOf q (M.take k)) := by show _ = _; rw [HK.out]; exact KN he
        have hq := hstr_ne he
        clear KY KN HK he
        generalize lowS rn = q2 at *
        generalize valsOf q (M.take k) = L at *
        go_wp2_with fail
        refine (HSN.out _).mono ?_
        rintro e w4 ⟨rfl, hb4⟩
        obtain ⟨hz4, c0, c1, kb⟩ := hdr_room hb4
        have HO4 : Hid (OwnS w4 (w.heap.size + 1) u9 L) := HO.out.below kb
        have HB4 : Hid (Below (w.heap.size + 1) (w.alloc (.cells #[.int .i64 0, .string ⟨#[]⟩] 50)) w4) := hb.trans (kb.mono hz)
        clear hb4 kb hb HO p1 p3
        go_wp2_with fail
        go_roundw
        case rel => exact ⟨k + 1, by omega, by go_num, by rw [HX.out]; exact HO4.out, HB4.out⟩
        case measure => simp [intOf]; omega
    · have ek : M.take k = M := List.take_of_length_le (by have := HN.out; omega)
      have HO2 := HO.out
      rw [ek, HV.out] at HO2
      have HJ := join_own wr _ u9 _ HO2 (by omega) (by show (hjoinL (valsOf q l)).length ≤ _; omega)
      have HT : Hid ((⟨(hjoinL (valsOf q l)).toArray⟩ : ByteArray).size ≤ 4040) := by show _ ≤ _; simpa [ByteArray.size] using hJL
      have HJ2 : Hid (Calls Tryz.prog 97 #[u9, .string ⟨#[44, 32]⟩] wr fun e w' => e = .returned (.string ⟨(hjoinL (valsOf q l)).toArray⟩) ∧ Below wr.heap.size wr w') := HJ
      obtain ⟨jt, HJT⟩ : ∃ jt, Hid ((⟨(hjoinL (valsOf q l)).toArray⟩ : ByteArray) = jt) := ⟨_, rfl⟩
      rw [HJT.out] at HT HJ2
      have hjt := HT.out
      have HBr : Hid (Below (w.heap.size + 1) (w.alloc (.cells #[.int .i64 0, .string ⟨#[]⟩] 50)) wr) := hb
      clear HT HJ HO2 HO ek hwr hb HD HZ
      go_wp2_with fail
      refine HJ2.out.mono ?_
      rintro e w4 ⟨rfl, hb4⟩
      go_wp2_with fail
      refine (hclone_any jt _ (by omega)).mono ?_
      rintro e w5 ⟨rfl, hb5⟩
      obtain ⟨hz6, q0, q1, f0, f1, kb⟩ := text_room (HBr.out.trans ((hb4.trans (hb5.mono hb4.size)).mono hz))
      obtain ⟨r0, r1⟩ := two_set (v0 := .int .i64 0) (v1 := .string jt) q0 q1
      clear hb4 hb5 HJ2 HBr
      go_wp2_with fail
      exact bodyPost_ret (v := .agg #[.int .i64 0, .string jt]) (by simp [results, Tryz.results92, go_sem, r0, r1]) rfl ⟨by rw [HJT.out], (kb.setCell (Nat.le_refl _) _).setCell (Nat.le_refl _) _⟩
set_option maxRecDepth 100000 in
set_option maxHeartbeats 4000000 in
theorem implJoin_any (w : World) (a : Option Addr) (cap : Nat) (l : List Hdr) (name : ByteArray) (hl : l.length ≤ 1048576) (hcap : l.length ≤ cap) (hset : SetIs w) (hi : HdsIn w a l) :
    Calls Tryz.prog 92 #[.slice a l.length cap, .string name] w fun e w' => e = .returned (.agg #[.int .i64 (joinC l name), .string (joinT l name)]) ∧ Below w.heap.size w w' := by
  have HA : Hid (∀ W, Below w.heap.size w W → Calls Tryz.prog 134 #[.slice a l.length cap, .string name] W fun e w' => e = .returned (.int .i64 (askC l name)) ∧ Below W.heap.size W w') := fun W hb => namedFault_any W a cap l name hl (hset.below hb) (hi.keep hb)
  by_cases h0 : askC l name = 0
  · cases hf : firstAt (lowS name) l with
    | some i =>
      have hv : ¬ valsOf (lowS name) l = [] := fun e => by rw [valsOf_first.1 e] at hf; cases hf
      rw [(join_some h0 hv).1, (join_some h0 hv).2]
      have hil := firstAt_lt hf
      rcases hi with h | ⟨b, off, rfl, hat⟩
      · subst h; simp at hil
      · exact implJoin_found w b off cap l name i h0 hf hcap hset hat
    | none =>
      have hv : valsOf (lowS name) l = [] := valsOf_first.2 hf
      rw [(join_none h0 hv).1, (join_none h0 hv).2]
      obtain ⟨h20, hz, hnm⟩ := asked h0
      have HP : Hid (∀ W, Below w.heap.size w W → Calls Tryz.prog 135 #[.slice a l.length cap] W fun e w' => e = .returned (.map (some W.heap.size)) ∧ NamesMap w' W.heap.size 20 (fun x => firstAt x l) ∧ Below W.heap.size W w') := fun W hb => firstPlaces_any W a cap l h20 (fun i r hr => (hz i r hr).1) (hi.keep hb)
      have HS : Hid (∀ W, Calls Tryz.prog 91 #[.string name] W fun e w' => e = .returned (.string (lowS name)) ∧ Below W.heap.size W w') := fun W => smallName_any name W (by omega)
      have HF : Hid (firstAt (lowS name) l = none) := hf
      have sz := lowS_size name
      rw [h0] at HA
      clear hi hz h0 h20 hset hf hv
      generalize l.length = n at *
      generalize lowS name = q at *
      go_enter Tryz.func92, Tryz.ntmps92
      go_wp2_with fail
      refine (HA.out _ ((Below.refl _ _).alloc (Nat.le_refl _) _)).mono ?_
      rintro e w1 ⟨rfl, hb1⟩
      rw [World.size_alloc] at hb1
      have HB1 : Hid (Below (w.heap.size + 1) (w.alloc (.cells #[.int .i64 0, .string ⟨#[]⟩] 50)) w1) := hb1
      have hz1 : w.heap.size + 1 ≤ w1.heap.size := by have := hb1.size; rwa [World.size_alloc] at this
      clear hb1 HA
      go_wp2_with fail
      refine (HS.out _).mono ?_
      rintro e w2 ⟨rfl, hb2⟩
      have HB2 : Hid (Below (w.heap.size + 1) (w.alloc (.cells #[.int .i64 0, .string ⟨#[]⟩] 50)) w2) := HB1.out.trans (hb2.mono hz1)
      have hz2 : w.heap.size + 1 ≤ w2.heap.size := Nat.le_trans hz1 hb2.size
      clear hb2 HB1 HS hz1
      go_wp2_with fail
      refine (HP.out _ (text_room HB2.out).2.2.2.2.2).mono ?_
      rintro e w3 ⟨rfl, hm3, hb3⟩
      obtain ⟨hz3, q0, q1, f0, f1, kb⟩ := text_room (HB2.out.trans (hb3.mono hz2))
      obtain ⟨r0, r1⟩ := two_set (v0 := .int .i64 4) (v1 := .string ⟨#[]⟩) q0 q1
      have HM3 : Hid (NamesMap w3 w2.heap.size 20 (fun x => firstAt x l)) := hm3
      clear hb3 HB2 hm3 HP hz2
      generalize w2.heap.size = B at *
      try clear w2
      go_wp2_with (at_lookup; refine wpList_look_none _ rfl _ _ rfl B 20 _ rfl HM3.out q rfl (by omega) HF.out ?_)
      exact bodyPost_ret (v := .agg #[.int .i64 4, .string ⟨#[]⟩]) (by simp [results, Tryz.results92, go_sem, r0, r1]) rfl ⟨rfl, (kb.setCell (Nat.le_refl _) _).setCell (Nat.le_refl _) _⟩
  · rw [(join_bad h0).1, (join_bad h0).2]
    clear hi hset
    generalize askC l name = fc at *
    generalize l.length = n at *
    go_enter Tryz.func92, Tryz.ntmps92
    go_wp2_with fail
    refine (HA.out _ ((Below.refl _ _).alloc (Nat.le_refl _) _)).mono ?_
    rintro e w1 ⟨rfl, hb1⟩
    rw [World.size_alloc] at hb1
    obtain ⟨hz2, q0, q1, f0, f1, kb⟩ := text_room hb1
    obtain ⟨r0, r1⟩ := two_set (v0 := .int .i64 fc) (v1 := .string ⟨#[]⟩) q0 q1
    clear hb1 HA
    go_wp2_with fail
    exact bodyPost_ret (v := .agg #[.int .i64 fc, .string ⟨#[]⟩]) (by simp [results, Tryz.results92, go_sem, r0, r1]) rfl ⟨rfl, (kb.setCell (Nat.le_refl _) _).setCell (Nat.le_refl _) _⟩
end Go.Proofs.YtojcjpdgjohldaaGreatDoor
/-
  What RequestFault and its model answer.
-/
namespace Go.Proofs.YtojcjpdgjohldaaGreatDoor
open Go.ChangeShapes Go.WideShapes Go.ChangeAt Go.RowKit
theorem heads_sizes {l : List Hdr} (h : headsC l = 0) : l.length ≤ 20 ∧ ∀ (i : Nat) r, l[i]? = some r → r.name.size ≤ 64 ∧ r.value.size ≤ 200 := by
  obtain ⟨h1, h2⟩ := headsC_zero h
  refine ⟨h1, fun i r hr => ?_⟩
  obtain ⟨a, b, _⟩ := faultH_zero (h2 i r hr)
  exact ⟨hword_max a, b⟩
theorem lit_ne {m : ByteArray} {l : List UInt8} (h : ¬ m = ⟨l.toArray⟩) : (m.toList == l) = false := by
  rw [beq_eq_false_iff_ne, ByteArray.toList_eq]
  intro e
  apply h
  rw [← e]
theorem anyV_nil {vs : List ByteArray} (h : vs = []) : anyV vs = false := by subst h; rfl
theorem anyV_some {vs : List ByteArray} (h : vs ≠ []) : anyV vs = true := by simpa [anyV] using h
/-- A request, boxed. -/
def rqV (m h p : ByteArray) (a : Option Addr) (n cap : Nat) : Value := .agg #[.string m, .string h, .string p, .slice a n cap]
theorem reqJoin {l : List Hdr} (h : headsC l = 0) : (valsOf hostN l ≠ [] → joinC l ⟨#[72, 111, 115, 116]⟩ = 0) ∧ (valsOf hostN l = [] → joinC l ⟨#[72, 111, 115, 116]⟩ = 4) := by
  have e0 : askC l hostT = 0 := askC_word h hostT_word
  refine ⟨fun hv => ?_, fun hv => ?_⟩
  · exact (join_some e0 (by rw [hostT_low]; exact hv)).1
  · exact (join_none e0 (by rw [hostT_low]; exact hv)).1
set_option maxHeartbeats 4000000 in
theorem specReq_get (w : World) (h p : ByteArray) (a : Option Addr) (cap : Nat) (l : List Hdr) (hl : l.length ≤ 1048576) (hi : HdsIn w a l) :
    Calls Tryz.prog 17 #[.agg #[.string ⟨#[71, 69, 84]⟩, .string h, .string p, .slice a l.length cap]] w fun e w' => e = .returned (.int .i64 (reqC ⟨#[71, 69, 84]⟩ h p l)) ∧ Below w.heap.size w w' := by
  have HM : methS ⟨#[71, 69, 84]⟩ = true := by decide +kernel
  have CH := fun W => l5Host_any h W
  have CP := fun W => l5Path_any p W
  have bW : Below w.heap.size w (w.alloc (.cells #[.string ⟨#[71, 69, 84]⟩, .string h, .string p, .slice a l.length cap] 26)) := (Below.refl _ _).alloc (Nat.le_refl _) _
  cases ch : hostS h
  · have HE : Hid (reqC ⟨#[71, 69, 84]⟩ h p l = 5) := reqC_bad (by simp [lineS, ch])
    simp only [ch] at CH
    have HB : Hid (Below w.heap.size w (w.alloc (.cells #[.string ⟨#[71, 69, 84]⟩, .string h, .string p, .slice a l.length cap] 26))) := bW
    clear bW HM hi ch CP
    go_enter Tryz.func17, Tryz.ntmps17
    go_wp2_with (go_at_call 67; refine (CH _).mono ?_; rintro e w' ⟨rfl, rfl⟩)
    go_ret
    exact ⟨ret_int HE.out.symm, HB.out⟩
  simp only [ch] at CH
  cases cp : pathS p
  · have HE : Hid (reqC ⟨#[71, 69, 84]⟩ h p l = 5) := reqC_bad (by simp [lineS, cp])
    simp only [cp] at CP
    have HB : Hid (Below w.heap.size w (w.alloc (.cells #[.string ⟨#[71, 69, 84]⟩, .string h, .string p, .slice a l.length cap] 26))) := bW
    clear bW HM hi ch cp
    go_enter Tryz.func17, Tryz.ntmps17
    go_wp2_with (first | (go_at_call 67; refine (CH _).mono ?_; rintro e w' ⟨rfl, rfl⟩) | (go_at_call 68; refine (CP _).mono ?_; rintro e w' ⟨rfl, rfl⟩))
    go_ret
    exact ⟨ret_int HE.out.symm, HB.out⟩
  simp only [cp] at CP
  have hls : lineS ⟨#[71, 69, 84]⟩ h p = true := by simp [lineS, HM, ch, cp]
  have HR : Hid (reqC ⟨#[71, 69, 84]⟩ h p l = restC l) := reqC_ok hls
  obtain ⟨W, hW⟩ : ∃ W, W = w.alloc (.cells #[.string ⟨#[71, 69, 84]⟩, .string h, .string p, .slice a l.length cap] 26) := ⟨_, rfl⟩
  have HW : Hid (W = w.alloc (.cells #[.string ⟨#[71, 69, 84]⟩, .string h, .string p, .slice a l.length cap] 26)) := hW
  have hc3 : W.cell? ⟨w.heap.size, 3, none⟩ = some (.slice a l.length cap) := by rw [hW, World.cell?_alloc_mark]; rfl
  rw [← hW] at bW
  have hlt : w.heap.size < W.heap.size := by rw [hW]; simp
  have CF := specHFault_any W a cap l hl (hi.keep bW)
  have HI : Hid (HdsIn w a l) := hi
  have HB : Hid (Below w.heap.size w W) := bW
  clear hi bW hW ch cp hls HM
  go_enter Tryz.func17, Tryz.ntmps17
  go_wp2_with (first | (go_at_call 67; refine (CH _).mono ?_; rintro e w' ⟨rfl, rfl⟩) | (go_at_call 68; refine (CP _).mono ?_; rintro e w' ⟨rfl, rfl⟩))
  rw [← HW.out]
  refine CF.mono ?_
  rintro e w1 ⟨rfl, hb1⟩
  clear CF CH CP HW
  have hc3' : w1.cell? ⟨w.heap.size, 3, none⟩ = some (.slice a l.length cap) := by rw [hb1.cell (p := ⟨w.heap.size, 3, none⟩) hlt]; exact hc3
  have HB1 : Hid (Below w.heap.size w w1) := HB.out.trans (hb1.mono HB.out.size)
  have hlt1 : w.heap.size < w1.heap.size := Nat.lt_of_lt_of_le hlt hb1.size
  clear hb1 hc3 hlt HB
  by_cases c0 : headsC l = 0
  · obtain ⟨s1, s2⟩ := heads_sizes c0
    have CJ := l4Join_any w1 a cap l hostN s1 s2 (by decide) (HI.out.keep HB1.out)
    rw [hostN_low] at CJ
    have HJ : Hid (Calls Tryz.prog 70 #[.slice a l.length cap, .string ⟨#[104, 111, 115, 116]⟩] w1 fun e w' => e = .returned (.tuple #[.string ⟨(hjoinL (valsOf hostN l)).toArray⟩, .bool (anyV (valsOf hostN l))]) ∧ Below w1.heap.size w1 w') := CJ
    have HE1 : Hid (valsOf hostN l ≠ [] → restC l = 6) := fun hv => restC_host c0 hv
    have HE2 : Hid (valsOf hostN l = [] → 20 ≤ l.length → restC l = 2) := fun hv hn => restC_many c0 hv hn
    have HE3 : Hid (valsOf hostN l = [] → ¬ 20 ≤ l.length → restC l = 0) := fun hv hn => restC_ok c0 hv hn
    rw [c0]
    clear c0 s2 CJ HI
    generalize (⟨(hjoinL (valsOf hostN l)).toArray⟩ : ByteArray) = t at *
    go_wp2_with fail
    refine HJ.out.mono ?_
    rintro e w2 ⟨rfl, hb2⟩
    have hc4 : w2.cell? ⟨w.heap.size, 3, none⟩ = some (.slice a l.length cap) := by rw [hb2.cell (p := ⟨w.heap.size, 3, none⟩) hlt1]; exact hc3'
    have HB2 : Hid (Below w.heap.size w w2) := HB1.out.trans (hb2.mono HB1.out.size)
    clear hb2 HJ hc3' hlt1
    by_cases cv : valsOf hostN l = []
    · rw [anyV_nil cv]
      by_cases cn : 20 ≤ l.length
      · have HE : Hid (reqC ⟨#[71, 69, 84]⟩ h p l = 2) := by show _ = _; rw [HR.out]; exact HE2.out cv cn
        have cn' : (20 : Int) ≤ l.length := by omega
        clear HE1 HE2 HE3 HR cv cn
        generalize l.length = n at *
        go_wp2_with fail
        go_ret
        exact ⟨ret_int HE.out.symm, HB2.out⟩
      · have HE : Hid (reqC ⟨#[71, 69, 84]⟩ h p l = 0) := by show _ = _; rw [HR.out]; exact HE3.out cv cn
        have cn' : ¬ (20 : Int) ≤ l.length := by omega
        clear HE1 HE2 HE3 HR cv cn
        generalize l.length = n at *
        go_wp2_with fail
        go_ret
        exact ⟨ret_int HE.out.symm, HB2.out⟩
    · rw [anyV_some cv]
      have HE : Hid (reqC ⟨#[71, 69, 84]⟩ h p l = 6) := by show _ = _; rw [HR.out]; exact HE1.out cv
      clear HE1 HE2 HE3 HR cv
      go_wp2_with fail
      go_ret
      exact ⟨ret_int HE.out.symm, HB2.out⟩
  · have HE : Hid (reqC ⟨#[71, 69, 84]⟩ h p l = headsC l) := by show _ = _; rw [HR.out]; exact restC_heads c0
    clear HR HI
    generalize headsC l = c at *
    go_wp2_with fail
    go_ret
    exact ⟨ret_int HE.out.symm, HB1.out⟩
set_option maxHeartbeats 4000000 in
theorem specReq_head (w : World) (h p : ByteArray) (a : Option Addr) (cap : Nat) (l : List Hdr) (hl : l.length ≤ 1048576) (hi : HdsIn w a l) :
    Calls Tryz.prog 17 #[.agg #[.string ⟨#[72, 69, 65, 68]⟩, .string h, .string p, .slice a l.length cap]] w fun e w' => e = .returned (.int .i64 (reqC ⟨#[72, 69, 65, 68]⟩ h p l)) ∧ Below w.heap.size w w' := by
  have HM : methS ⟨#[72, 69, 65, 68]⟩ = true := by decide +kernel
  have CH := fun W => l5Host_any h W
  have CP := fun W => l5Path_any p W
  have bW : Below w.heap.size w (w.alloc (.cells #[.string ⟨#[72, 69, 65, 68]⟩, .string h, .string p, .slice a l.length cap] 26)) := (Below.refl _ _).alloc (Nat.le_refl _) _
  cases ch : hostS h
  · have HE : Hid (reqC ⟨#[72, 69, 65, 68]⟩ h p l = 5) := reqC_bad (by simp [lineS, ch])
    simp only [ch] at CH
    have HB : Hid (Below w.heap.size w (w.alloc (.cells #[.string ⟨#[72, 69, 65, 68]⟩, .string h, .string p, .slice a l.length cap] 26))) := bW
    clear bW HM hi ch CP
    go_enter Tryz.func17, Tryz.ntmps17
    go_wp2_with (go_at_call 67; refine (CH _).mono ?_; rintro e w' ⟨rfl, rfl⟩)
    go_ret
    exact ⟨ret_int HE.out.symm, HB.out⟩
  simp only [ch] at CH
  cases cp : pathS p
  · have HE : Hid (reqC ⟨#[72, 69, 65, 68]⟩ h p l = 5) := reqC_bad (by simp [lineS, cp])
    simp only [cp] at CP
    have HB : Hid (Below w.heap.size w (w.alloc (.cells #[.string ⟨#[72, 69, 65, 68]⟩, .string h, .string p, .slice a l.length cap] 26))) := bW
    clear bW HM hi ch cp
    go_enter Tryz.func17, Tryz.ntmps17
    go_wp2_with (first | (go_at_call 67; refine (CH _).mono ?_; rintro e w' ⟨rfl, rfl⟩) | (go_at_call 68; refine (CP _).mono ?_; rintro e w' ⟨rfl, rfl⟩))
    go_ret
    exact ⟨ret_int HE.out.symm, HB.out⟩
  simp only [cp] at CP
  have hls : lineS ⟨#[72, 69, 65, 68]⟩ h p = true := by simp [lineS, HM, ch, cp]
  have HR : Hid (reqC ⟨#[72, 69, 65, 68]⟩ h p l = restC l) := reqC_ok hls
  obtain ⟨W, hW⟩ : ∃ W, W = w.alloc (.cells #[.string ⟨#[72, 69, 65, 68]⟩, .string h, .string p, .slice a l.length cap] 26) := ⟨_, rfl⟩
  have HW : Hid (W = w.alloc (.cells #[.string ⟨#[72, 69, 65, 68]⟩, .string h, .string p, .slice a l.length cap] 26)) := hW
  have hc3 : W.cell? ⟨w.heap.size, 3, none⟩ = some (.slice a l.length cap) := by rw [hW, World.cell?_alloc_mark]; rfl
  rw [← hW] at bW
  have hlt : w.heap.size < W.heap.size := by rw [hW]; simp
  have CF := specHFault_any W a cap l hl (hi.keep bW)
  have HI : Hid (HdsIn w a l) := hi
  have HB : Hid (Below w.heap.size w W) := bW
  clear hi bW hW ch cp hls HM
  go_enter Tryz.func17, Tryz.ntmps17
  go_wp2_with (first | (go_at_call 67; refine (CH _).mono ?_; rintro e w' ⟨rfl, rfl⟩) | (go_at_call 68; refine (CP _).mono ?_; rintro e w' ⟨rfl, rfl⟩))
  rw [← HW.out]
  refine CF.mono ?_
  rintro e w1 ⟨rfl, hb1⟩
  clear CF CH CP HW
  have hc3' : w1.cell? ⟨w.heap.size, 3, none⟩ = some (.slice a l.length cap) := by rw [hb1.cell (p := ⟨w.heap.size, 3, none⟩) hlt]; exact hc3
  have HB1 : Hid (Below w.heap.size w w1) := HB.out.trans (hb1.mono HB.out.size)
  have hlt1 : w.heap.size < w1.heap.size := Nat.lt_of_lt_of_le hlt hb1.size
  clear hb1 hc3 hlt HB
  by_cases c0 : headsC l = 0
  · obtain ⟨s1, s2⟩ := heads_sizes c0
    have CJ := l4Join_any w1 a cap l hostN s1 s2 (by decide) (HI.out.keep HB1.out)
    rw [hostN_low] at CJ
    have HJ : Hid (Calls Tryz.prog 70 #[.slice a l.length cap, .string ⟨#[104, 111, 115, 116]⟩] w1 fun e w' => e = .returned (.tuple #[.string ⟨(hjoinL (valsOf hostN l)).toArray⟩, .bool (anyV (valsOf hostN l))]) ∧ Below w1.heap.size w1 w') := CJ
    have HE1 : Hid (valsOf hostN l ≠ [] → restC l = 6) := fun hv => restC_host c0 hv
    have HE2 : Hid (valsOf hostN l = [] → 20 ≤ l.length → restC l = 2) := fun hv hn => restC_many c0 hv hn
    have HE3 : Hid (valsOf hostN l = [] → ¬ 20 ≤ l.length → restC l = 0) := fun hv hn => restC_ok c0 hv hn
    rw [c0]
    clear c0 s2 CJ HI
    generalize (⟨(hjoinL (valsOf hostN l)).toArray⟩ : ByteArray) = t at *
    go_wp2_with fail
    refine HJ.out.mono ?_
    rintro e w2 ⟨rfl, hb2⟩
    have hc4 : w2.cell? ⟨w.heap.size, 3, none⟩ = some (.slice a l.length cap) := by rw [hb2.cell (p := ⟨w.heap.size, 3, none⟩) hlt1]; exact hc3'
    have HB2 : Hid (Below w.heap.size w w2) := HB1.out.trans (hb2.mono HB1.out.size)
    clear hb2 HJ hc3' hlt1
    by_cases cv : valsOf hostN l = []
    · rw [anyV_nil cv]
      by_cases cn : 20 ≤ l.length
      · have HE : Hid (reqC ⟨#[72, 69, 65, 68]⟩ h p l = 2) := by show _ = _; rw [HR.out]; exact HE2.out cv cn
        have cn' : (20 : Int) ≤ l.length := by omega
        clear HE1 HE2 HE3 HR cv cn
        generalize l.length = n at *
        go_wp2_with fail
        go_ret
        exact ⟨ret_int HE.out.symm, HB2.out⟩
      · have HE : Hid (reqC ⟨#[72, 69, 65, 68]⟩ h p l = 0) := by show _ = _; rw [HR.out]; exact HE3.out cv cn
        have cn' : ¬ (20 : Int) ≤ l.length := by omega
        clear HE1 HE2 HE3 HR cv cn
        generalize l.length = n at *
        go_wp2_with fail
        go_ret
        exact ⟨ret_int HE.out.symm, HB2.out⟩
    · rw [anyV_some cv]
      have HE : Hid (reqC ⟨#[72, 69, 65, 68]⟩ h p l = 6) := by show _ = _; rw [HR.out]; exact HE1.out cv
      clear HE1 HE2 HE3 HR cv
      go_wp2_with fail
      go_ret
      exact ⟨ret_int HE.out.symm, HB2.out⟩
  · have HE : Hid (reqC ⟨#[72, 69, 65, 68]⟩ h p l = headsC l) := by show _ = _; rw [HR.out]; exact restC_heads c0
    clear HR HI
    generalize headsC l = c at *
    go_wp2_with fail
    go_ret
    exact ⟨ret_int HE.out.symm, HB1.out⟩
set_option maxHeartbeats 1000000 in
theorem specReq_any (w : World) (m h p : ByteArray) (a : Option Addr) (cap : Nat) (l : List Hdr) (hl : l.length ≤ 1048576) (hi : HdsIn w a l) :
    Calls Tryz.prog 17 #[.agg #[.string m, .string h, .string p, .slice a l.length cap]] w fun e w' => e = .returned (.int .i64 (reqC m h p l)) ∧ Below w.heap.size w w' := by
  by_cases c1 : m = ⟨#[71, 69, 84]⟩
  · subst c1; exact specReq_get w h p a cap l hl hi
  by_cases c2 : m = ⟨#[72, 69, 65, 68]⟩
  · subst c2; exact specReq_head w h p a cap l hl hi
  have HE : Hid (reqC m h p l = 5) := reqC_bad (by
    have : methS m = false := by simp only [methS, getT, headT, c1, c2, decide_false]; rfl
    simp [lineS, this])
  have d1 : (m.toList == [71, 69, 84]) = false := lit_ne c1
  have d2 : (m.toList == [72, 69, 65, 68]) = false := lit_ne c2
  clear c1 c2
  clear hi
  go_enter Tryz.func17, Tryz.ntmps17
  go_wp2_with fail
  go_ret
  exact ⟨ret_int HE.out.symm, (Below.refl _ _).alloc (Nat.le_refl _) _⟩
set_option maxHeartbeats 8000000 in
theorem implReq_get (E : Errs) (w : World) (h p : ByteArray) (a : Option Addr) (cap : Nat) (l : List Hdr) (hl : l.length ≤ 1048576) (hcap : l.length ≤ cap) (hps : p.size ≤ 1048576) (hset : SetIs w) (hE : ErrsIs w E) (hi : HdsIn w a l) :
    Calls Tryz.prog 72 #[.agg #[.string ⟨#[71, 69, 84]⟩, .string h, .string p, .slice a l.length cap]] w fun e w' => e = .returned (errV E (reqC ⟨#[71, 69, 84]⟩ h p l)) ∧ Below w.heap.size w w' := by
  have HM : methS ⟨#[71, 69, 84]⟩ = true := by decide +kernel
  obtain ⟨W, hW⟩ : ∃ W, W = w.alloc (.cells #[.string ⟨#[71, 69, 84]⟩, .string h, .string p, .slice a l.length cap] 26) := ⟨_, rfl⟩
  have bW : Below w.heap.size w W := by rw [hW]; exact (Below.refl _ _).alloc (Nat.le_refl _) _
  have HW : Hid (W = w.alloc (.cells #[.string ⟨#[71, 69, 84]⟩, .string h, .string p, .slice a l.length cap] 26)) := hW
  have hlt : w.heap.size < W.heap.size := by rw [hW]; simp
  have hc2 : W.cell? ⟨w.heap.size, 2, none⟩ = some (.string p) := by rw [hW, World.cell?_alloc_mark]; rfl
  have hc3 : W.cell? ⟨w.heap.size, 3, none⟩ = some (.slice a l.length cap) := by rw [hW, World.cell?_alloc_mark]; rfl
  clear hW
  have CH := isHost_any h W
  have HI : Hid (∀ X, Below w.heap.size w X → HdsIn X a l) := fun X hb => hi.keep hb
  have HS : Hid (∀ X, Below w.heap.size w X → SetIs X) := fun X hb => hset.below hb
  have HE0 : Hid (∀ X, Below w.heap.size w X → ErrsIs X E) := fun X hb => hE.below hb
  have HB : Hid (Below w.heap.size w W) := bW
  clear hi hset hE bW
  cases ch : hostS h
  · have HE : Hid (errV E (reqC ⟨#[71, 69, 84]⟩ h p l) = .iface 261 (.pointer (some E.u))) := by show _ = _; rw [reqC_bad (by simp [lineS, ch])]; rfl
    simp only [ch] at CH
    clear HM ch hc2 hc3 hlt
    go_enter Tryz.func72, Tryz.ntmps72
    go_wp2_with fail
    rw [← HW.out]
    refine CH.mono ?_
    rintro e w1 ⟨rfl, hb1⟩
    have HB1 : Hid (Below w.heap.size w w1) := HB.out.trans (hb1.mono HB.out.size)
    have gU := (HE0.out _ HB1.out).gU
    clear CH HW hb1 HB HE0
    go_wp2_with fail
    go_ret
    exact ⟨congrArg Ending.returned HE.out.symm, HB1.out⟩
  simp only [ch] at CH
  have CP : Hid (∀ X, Below w.heap.size w X → Calls Tryz.prog 122 #[.string p] X fun e w' => e = .returned (.bool (pathS p)) ∧ Below X.heap.size X w') := fun X hb => isPath_any p X (HS.out X hb) hps
  cases cp : pathS p
  · have HE : Hid (errV E (reqC ⟨#[71, 69, 84]⟩ h p l) = .iface 261 (.pointer (some E.u))) := by show _ = _; rw [reqC_bad (by simp [lineS, cp])]; rfl
    rw [cp] at CP
    clear HM ch cp hc3 hps
    go_enter Tryz.func72, Tryz.ntmps72
    go_wp2_with fail
    rw [← HW.out]
    refine CH.mono ?_
    rintro e w1 ⟨rfl, hb1⟩
    have HB1 : Hid (Below w.heap.size w w1) := HB.out.trans (hb1.mono HB.out.size)
    have hc2' : w1.cell? ⟨w.heap.size, 2, none⟩ = some (.string p) := by rw [hb1.cell (p := ⟨w.heap.size, 2, none⟩) hlt]; exact hc2
    clear CH HW hb1 HB hc2 hlt
    have C2 := CP.out w1 HB1.out
    go_wp2_with fail
    refine C2.mono ?_
    rintro e w2 ⟨rfl, hb2⟩
    have HB2 : Hid (Below w.heap.size w w2) := HB1.out.trans (hb2.mono HB1.out.size)
    have gU := (HE0.out _ HB2.out).gU
    clear C2 CP hb2 HB1 HE0 hc2'
    go_wp2_with fail
    go_ret
    exact ⟨congrArg Ending.returned HE.out.symm, HB2.out⟩
  rw [cp] at CP
  have hls : lineS ⟨#[71, 69, 84]⟩ h p = true := by simp [lineS, HM, ch, cp]
  have HR : Hid (reqC ⟨#[71, 69, 84]⟩ h p l = restC l) := reqC_ok hls
  have HK := headsC_codes l
  have CF : Hid (∀ X, Below w.heap.size w X → Calls Tryz.prog 111 #[.slice a l.length cap] X fun e w' => e = .returned (.int .i64 (headsC l)) ∧ Below X.heap.size X w') := fun X hb => implHFault_any X a cap l hl (HS.out X hb) (HI.out X hb)
  clear hls HM ch cp hps
  go_enter Tryz.func72, Tryz.ntmps72
  go_wp2_with fail
  rw [← HW.out]
  refine CH.mono ?_
  rintro e w1 ⟨rfl, hb1⟩
  have HB1 : Hid (Below w.heap.size w w1) := HB.out.trans (hb1.mono HB.out.size)
  have hc2' : w1.cell? ⟨w.heap.size, 2, none⟩ = some (.string p) := by rw [hb1.cell (p := ⟨w.heap.size, 2, none⟩) hlt]; exact hc2
  have hc3' : w1.cell? ⟨w.heap.size, 3, none⟩ = some (.slice a l.length cap) := by rw [hb1.cell (p := ⟨w.heap.size, 3, none⟩) hlt]; exact hc3
  have hlt1 : w.heap.size < w1.heap.size := Nat.lt_of_lt_of_le hlt hb1.size
  clear CH HW hb1 HB hc2 hc3 hlt
  have C2 := CP.out w1 HB1.out
  go_wp2_with fail
  refine C2.mono ?_
  rintro e w2 ⟨rfl, hb2⟩
  have HB2 : Hid (Below w.heap.size w w2) := HB1.out.trans (hb2.mono HB1.out.size)
  have hc3 : w2.cell? ⟨w.heap.size, 3, none⟩ = some (.slice a l.length cap) := by rw [hb2.cell (p := ⟨w.heap.size, 3, none⟩) hlt1]; exact hc3'
  have hlt2 : w.heap.size < w2.heap.size := Nat.lt_of_lt_of_le hlt1 hb2.size
  clear C2 CP hb2 HB1 hc2' hc3' hlt1
  have C3 := CF.out w2 HB2.out
  go_wp2_with fail
  refine C3.mono ?_
  rintro e w3 ⟨rfl, hb3⟩
  have HB3 : Hid (Below w.heap.size w w3) := HB2.out.trans (hb3.mono HB2.out.size)
  have hc3' : w3.cell? ⟨w.heap.size, 3, none⟩ = some (.slice a l.length cap) := by rw [hb3.cell (p := ⟨w.heap.size, 3, none⟩) hlt2]; exact hc3
  have hlt3 : w.heap.size < w3.heap.size := Nat.lt_of_lt_of_le hlt2 hb3.size
  clear C3 CF hb3 HB2 hc3 hlt2
  have C4 := headError_any E (headsC l) w3 (HE0.out _ HB3.out) HK
  by_cases c0 : headsC l = 0
  · rw [c0] at C4
    rw [errV0] at C4
    rw [c0]
    have CJ : Calls Tryz.prog 92 #[.slice a l.length cap, .string ⟨#[72, 111, 115, 116]⟩] w3 fun e w' => e = .returned (.agg #[.int .i64 (joinC l ⟨#[72, 111, 115, 116]⟩), .string (joinT l ⟨#[72, 111, 115, 116]⟩)]) ∧ Below w3.heap.size w3 w' := implJoin_any w3 a cap l ⟨#[72, 111, 115, 116]⟩ hl hcap (HS.out _ HB3.out) (HI.out _ HB3.out)
    obtain ⟨hj1, hj2⟩ := reqJoin c0
    have HJ : Hid (Calls Tryz.prog 92 #[.slice a l.length cap, .string ⟨#[72, 111, 115, 116]⟩] w3 fun e w' => e = .returned (.agg #[.int .i64 (joinC l ⟨#[72, 111, 115, 116]⟩), .string (joinT l ⟨#[72, 111, 115, 116]⟩)]) ∧ Below w3.heap.size w3 w') := CJ
    clear CJ
    generalize joinT l ⟨#[72, 111, 115, 116]⟩ = jt at *
    by_cases cv : valsOf hostN l = []
    · rw [hj2 cv] at HJ
      have HN := (headsC_zero c0).1
      clear hj1 hj2 HI HS HK
      by_cases cn : 20 ≤ l.length
      · have HE : Hid (errV E (reqC ⟨#[71, 69, 84]⟩ h p l) = .iface 261 (.pointer (some E.m))) := by show _ = _; rw [HR.out, restC_many c0 cv cn]; rfl
        have cn' : (l.length : Int) = 20 := by omega
        have cb : ((l.length : Int) == 20) = true := by rw [cn']; rfl
        clear HR cv cn cn' c0
        generalize l.length = n at *
        go_wp2_with fail
        refine C4.mono ?_
        rintro e w4 ⟨rfl, hw⟩
        obtain rfl := hw.symm
        clear C4 hw
        go_wp2_with fail
        refine HJ.out.mono ?_
        rintro e w5 ⟨rfl, hb5⟩
        have hc5 : w5.cell? ⟨w.heap.size, 3, none⟩ = some (.slice a n cap) := by rw [hb5.cell (p := ⟨w.heap.size, 3, none⟩) hlt3]; exact hc3'
        have HB5 : Hid (Below w.heap.size w w5) := HB3.out.trans (hb5.mono HB3.out.size)
        have gM := (HE0.out _ HB5.out).gM
        clear hb5 HJ hc3' hlt3 HB3 HE0
        have hfc := f_field_code
        go_wp2_with fail
        go_ret
        exact ⟨congrArg Ending.returned HE.out.symm, HB5.out⟩
      · have HE : Hid (errV E (reqC ⟨#[71, 69, 84]⟩ h p l) = .nilIface) := by show _ = _; rw [HR.out, restC_ok c0 cv cn]; rfl
        have cb : ((l.length : Int) == 20) = false := by rw [beq_eq_false_iff_ne]; omega
        clear HR cv cn c0 HE0
        generalize l.length = n at *
        go_wp2_with fail
        refine C4.mono ?_
        rintro e w4 ⟨rfl, hw⟩
        obtain rfl := hw.symm
        clear C4 hw
        go_wp2_with fail
        refine HJ.out.mono ?_
        rintro e w5 ⟨rfl, hb5⟩
        have hc5 : w5.cell? ⟨w.heap.size, 3, none⟩ = some (.slice a n cap) := by rw [hb5.cell (p := ⟨w.heap.size, 3, none⟩) hlt3]; exact hc3'
        have HB5 : Hid (Below w.heap.size w w5) := HB3.out.trans (hb5.mono HB3.out.size)
        clear hb5 HJ hc3' hlt3 HB3
        have hfc := f_field_code
        go_wp2_with fail
        go_ret
        exact ⟨congrArg Ending.returned HE.out.symm, HB5.out⟩
    · rw [hj1 cv] at HJ
      have HE : Hid (errV E (reqC ⟨#[71, 69, 84]⟩ h p l) = .iface 261 (.pointer (some E.d))) := by show _ = _; rw [HR.out, restC_host c0 cv]; rfl
      clear hj1 hj2 HI HS HK HR cv c0
      generalize l.length = n at *
      go_wp2_with fail
      refine C4.mono ?_
      rintro e w4 ⟨rfl, hw⟩
      obtain rfl := hw.symm
      clear C4 hw
      go_wp2_with fail
      refine HJ.out.mono ?_
      rintro e w5 ⟨rfl, hb5⟩
      have HB5 : Hid (Below w.heap.size w w5) := HB3.out.trans (hb5.mono HB3.out.size)
      have gD := (HE0.out _ HB5.out).gD
      clear hb5 HJ hc3' hlt3 HB3 HE0
      have hfc := f_field_code
      go_wp2_with fail
      go_ret
      exact ⟨congrArg Ending.returned HE.out.symm, HB5.out⟩
  · have HE : Hid (errV E (reqC ⟨#[71, 69, 84]⟩ h p l) = errV E (headsC l)) := by show _ = _; rw [HR.out, restC_heads c0]
    have hv : ∃ x, errV E (headsC l) = .iface 261 (.pointer (some x)) := by
      rcases HK with e | e | e
      · exact absurd e c0
      · rw [e]; exact ⟨_, rfl⟩
      · rw [e]; exact ⟨_, rfl⟩
    obtain ⟨x, hx⟩ := hv
    rw [hx] at C4 HE
    clear HR HI HS HK HE0 c0 hx
    generalize headsC l = c at *
    generalize l.length = n at *
    go_wp2_with fail
    refine C4.mono ?_
    rintro e w4 ⟨rfl, hw⟩
    obtain rfl := hw.symm
    clear C4 hw
    go_wp2_with fail
    go_ret
    exact ⟨congrArg Ending.returned HE.out.symm, HB3.out⟩
set_option maxHeartbeats 8000000 in
theorem implReq_head (E : Errs) (w : World) (h p : ByteArray) (a : Option Addr) (cap : Nat) (l : List Hdr) (hl : l.length ≤ 1048576) (hcap : l.length ≤ cap) (hps : p.size ≤ 1048576) (hset : SetIs w) (hE : ErrsIs w E) (hi : HdsIn w a l) :
    Calls Tryz.prog 72 #[.agg #[.string ⟨#[72, 69, 65, 68]⟩, .string h, .string p, .slice a l.length cap]] w fun e w' => e = .returned (errV E (reqC ⟨#[72, 69, 65, 68]⟩ h p l)) ∧ Below w.heap.size w w' := by
  have HM : methS ⟨#[72, 69, 65, 68]⟩ = true := by decide +kernel
  obtain ⟨W, hW⟩ : ∃ W, W = w.alloc (.cells #[.string ⟨#[72, 69, 65, 68]⟩, .string h, .string p, .slice a l.length cap] 26) := ⟨_, rfl⟩
  have bW : Below w.heap.size w W := by rw [hW]; exact (Below.refl _ _).alloc (Nat.le_refl _) _
  have HW : Hid (W = w.alloc (.cells #[.string ⟨#[72, 69, 65, 68]⟩, .string h, .string p, .slice a l.length cap] 26)) := hW
  have hlt : w.heap.size < W.heap.size := by rw [hW]; simp
  have hc2 : W.cell? ⟨w.heap.size, 2, none⟩ = some (.string p) := by rw [hW, World.cell?_alloc_mark]; rfl
  have hc3 : W.cell? ⟨w.heap.size, 3, none⟩ = some (.slice a l.length cap) := by rw [hW, World.cell?_alloc_mark]; rfl
  clear hW
  have CH := isHost_any h W
  have HI : Hid (∀ X, Below w.heap.size w X → HdsIn X a l) := fun X hb => hi.keep hb
  have HS : Hid (∀ X, Below w.heap.size w X → SetIs X) := fun X hb => hset.below hb
  have HE0 : Hid (∀ X, Below w.heap.size w X → ErrsIs X E) := fun X hb => hE.below hb
  have HB : Hid (Below w.heap.size w W) := bW
  clear hi hset hE bW
  cases ch : hostS h
  · have HE : Hid (errV E (reqC ⟨#[72, 69, 65, 68]⟩ h p l) = .iface 261 (.pointer (some E.u))) := by show _ = _; rw [reqC_bad (by simp [lineS, ch])]; rfl
    simp only [ch] at CH
    clear HM ch hc2 hc3 hlt
    go_enter Tryz.func72, Tryz.ntmps72
    go_wp2_with fail
    rw [← HW.out]
    refine CH.mono ?_
    rintro e w1 ⟨rfl, hb1⟩
    have HB1 : Hid (Below w.heap.size w w1) := HB.out.trans (hb1.mono HB.out.size)
    have gU := (HE0.out _ HB1.out).gU
    clear CH HW hb1 HB HE0
    go_wp2_with fail
    go_ret
    exact ⟨congrArg Ending.returned HE.out.symm, HB1.out⟩
  simp only [ch] at CH
  have CP : Hid (∀ X, Below w.heap.size w X → Calls Tryz.prog 122 #[.string p] X fun e w' => e = .returned (.bool (pathS p)) ∧ Below X.heap.size X w') := fun X hb => isPath_any p X (HS.out X hb) hps
  cases cp : pathS p
  · have HE : Hid (errV E (reqC ⟨#[72, 69, 65, 68]⟩ h p l) = .iface 261 (.pointer (some E.u))) := by show _ = _; rw [reqC_bad (by simp [lineS, cp])]; rfl
    rw [cp] at CP
    clear HM ch cp hc3 hps
    go_enter Tryz.func72, Tryz.ntmps72
    go_wp2_with fail
    rw [← HW.out]
    refine CH.mono ?_
    rintro e w1 ⟨rfl, hb1⟩
    have HB1 : Hid (Below w.heap.size w w1) := HB.out.trans (hb1.mono HB.out.size)
    have hc2' : w1.cell? ⟨w.heap.size, 2, none⟩ = some (.string p) := by rw [hb1.cell (p := ⟨w.heap.size, 2, none⟩) hlt]; exact hc2
    clear CH HW hb1 HB hc2 hlt
    have C2 := CP.out w1 HB1.out
    go_wp2_with fail
    refine C2.mono ?_
    rintro e w2 ⟨rfl, hb2⟩
    have HB2 : Hid (Below w.heap.size w w2) := HB1.out.trans (hb2.mono HB1.out.size)
    have gU := (HE0.out _ HB2.out).gU
    clear C2 CP hb2 HB1 HE0 hc2'
    go_wp2_with fail
    go_ret
    exact ⟨congrArg Ending.returned HE.out.symm, HB2.out⟩
  rw [cp] at CP
  have hls : lineS ⟨#[72, 69, 65, 68]⟩ h p = true := by simp [lineS, HM, ch, cp]
  have HR : Hid (reqC ⟨#[72, 69, 65, 68]⟩ h p l = restC l) := reqC_ok hls
  have HK := headsC_codes l
  have CF : Hid (∀ X, Below w.heap.size w X → Calls Tryz.prog 111 #[.slice a l.length cap] X fun e w' => e = .returned (.int .i64 (headsC l)) ∧ Below X.heap.size X w') := fun X hb => implHFault_any X a cap l hl (HS.out X hb) (HI.out X hb)
  clear hls HM ch cp hps
  go_enter Tryz.func72, Tryz.ntmps72
  go_wp2_with fail
  rw [← HW.out]
  refine CH.mono ?_
  rintro e w1 ⟨rfl, hb1⟩
  have HB1 : Hid (Below w.heap.size w w1) := HB.out.trans (hb1.mono HB.out.size)
  have hc2' : w1.cell? ⟨w.heap.size, 2, none⟩ = some (.string p) := by rw [hb1.cell (p := ⟨w.heap.size, 2, none⟩) hlt]; exact hc2
  have hc3' : w1.cell? ⟨w.heap.size, 3, none⟩ = some (.slice a l.length cap) := by rw [hb1.cell (p := ⟨w.heap.size, 3, none⟩) hlt]; exact hc3
  have hlt1 : w.heap.size < w1.heap.size := Nat.lt_of_lt_of_le hlt hb1.size
  clear CH HW hb1 HB hc2 hc3 hlt
  have C2 := CP.out w1 HB1.out
  go_wp2_with fail
  refine C2.mono ?_
  rintro e w2 ⟨rfl, hb2⟩
  have HB2 : Hid (Below w.heap.size w w2) := HB1.out.trans (hb2.mono HB1.out.size)
  have hc3 : w2.cell? ⟨w.heap.size, 3, none⟩ = some (.slice a l.length cap) := by rw [hb2.cell (p := ⟨w.heap.size, 3, none⟩) hlt1]; exact hc3'
  have hlt2 : w.heap.size < w2.heap.size := Nat.lt_of_lt_of_le hlt1 hb2.size
  clear C2 CP hb2 HB1 hc2' hc3' hlt1
  have C3 := CF.out w2 HB2.out
  go_wp2_with fail
  refine C3.mono ?_
  rintro e w3 ⟨rfl, hb3⟩
  have HB3 : Hid (Below w.heap.size w w3) := HB2.out.trans (hb3.mono HB2.out.size)
  have hc3' : w3.cell? ⟨w.heap.size, 3, none⟩ = some (.slice a l.length cap) := by rw [hb3.cell (p := ⟨w.heap.size, 3, none⟩) hlt2]; exact hc3
  have hlt3 : w.heap.size < w3.heap.size := Nat.lt_of_lt_of_le hlt2 hb3.size
  clear C3 CF hb3 HB2 hc3 hlt2
  have C4 := headError_any E (headsC l) w3 (HE0.out _ HB3.out) HK
  by_cases c0 : headsC l = 0
  · rw [c0] at C4
    rw [errV0] at C4
    rw [c0]
    have CJ : Calls Tryz.prog 92 #[.slice a l.length cap, .string ⟨#[72, 111, 115, 116]⟩] w3 fun e w' => e = .returned (.agg #[.int .i64 (joinC l ⟨#[72, 111, 115, 116]⟩), .string (joinT l ⟨#[72, 111, 115, 116]⟩)]) ∧ Below w3.heap.size w3 w' := implJoin_any w3 a cap l ⟨#[72, 111, 115, 116]⟩ hl hcap (HS.out _ HB3.out) (HI.out _ HB3.out)
    obtain ⟨hj1, hj2⟩ := reqJoin c0
    have HJ : Hid (Calls Tryz.prog 92 #[.slice a l.length cap, .string ⟨#[72, 111, 115, 116]⟩] w3 fun e w' => e = .returned (.agg #[.int .i64 (joinC l ⟨#[72, 111, 115, 116]⟩), .string (joinT l ⟨#[72, 111, 115, 116]⟩)]) ∧ Below w3.heap.size w3 w') := CJ
    clear CJ
    generalize joinT l ⟨#[72, 111, 115, 116]⟩ = jt at *
    by_cases cv : valsOf hostN l = []
    · rw [hj2 cv] at HJ
      have HN := (headsC_zero c0).1
      clear hj1 hj2 HI HS HK
      by_cases cn : 20 ≤ l.length
      · have HE : Hid (errV E (reqC ⟨#[72, 69, 65, 68]⟩ h p l) = .iface 261 (.pointer (some E.m))) := by show _ = _; rw [HR.out, restC_many c0 cv cn]; rfl
        have cn' : (l.length : Int) = 20 := by omega
        have cb : ((l.length : Int) == 20) = true := by rw [cn']; rfl
        clear HR cv cn cn' c0
        generalize l.length = n at *
        go_wp2_with fail
        refine C4.mono ?_
        rintro e w4 ⟨rfl, hw⟩
        obtain rfl := hw.symm
        clear C4 hw
        go_wp2_with fail
        refine HJ.out.mono ?_
        rintro e w5 ⟨rfl, hb5⟩
        have hc5 : w5.cell? ⟨w.heap.size, 3, none⟩ = some (.slice a n cap) := by rw [hb5.cell (p := ⟨w.heap.size, 3, none⟩) hlt3]; exact hc3'
        have HB5 : Hid (Below w.heap.size w w5) := HB3.out.trans (hb5.mono HB3.out.size)
        have gM := (HE0.out _ HB5.out).gM
        clear hb5 HJ hc3' hlt3 HB3 HE0
        have hfc := f_field_code
        go_wp2_with fail
        go_ret
        exact ⟨congrArg Ending.returned HE.out.symm, HB5.out⟩
      · have HE : Hid (errV E (reqC ⟨#[72, 69, 65, 68]⟩ h p l) = .nilIface) := by show _ = _; rw [HR.out, restC_ok c0 cv cn]; rfl
        have cb : ((l.length : Int) == 20) = false := by rw [beq_eq_false_iff_ne]; omega
        clear HR cv cn c0 HE0
        generalize l.length = n at *
        go_wp2_with fail
        refine C4.mono ?_
        rintro e w4 ⟨rfl, hw⟩
        obtain rfl := hw.symm
        clear C4 hw
        go_wp2_with fail
        refine HJ.out.mono ?_
        rintro e w5 ⟨rfl, hb5⟩
        have hc5 : w5.cell? ⟨w.heap.size, 3, none⟩ = some (.slice a n cap) := by rw [hb5.cell (p := ⟨w.heap.size, 3, none⟩) hlt3]; exact hc3'
        have HB5 : Hid (Below w.heap.size w w5) := HB3.out.trans (hb5.mono HB3.out.size)
        clear hb5 HJ hc3' hlt3 HB3
        have hfc := f_field_code
        go_wp2_with fail
        go_ret
        exact ⟨congrArg Ending.returned HE.out.symm, HB5.out⟩
    · rw [hj1 cv] at HJ
      have HE : Hid (errV E (reqC ⟨#[72, 69, 65, 68]⟩ h p l) = .iface 261 (.pointer (some E.d))) := by show _ = _; rw [HR.out, restC_host c0 cv]; rfl
      clear hj1 hj2 HI HS HK HR cv c0
      generalize l.length = n at *
      go_wp2_with fail
      refine C4.mono ?_
      rintro e w4 ⟨rfl, hw⟩
      obtain rfl := hw.symm
      clear C4 hw
      go_wp2_with fail
      refine HJ.out.mono ?_
      rintro e w5 ⟨rfl, hb5⟩
      have HB5 : Hid (Below w.heap.size w w5) := HB3.out.trans (hb5.mono HB3.out.size)
      have gD := (HE0.out _ HB5.out).gD
      clear hb5 HJ hc3' hlt3 HB3 HE0
      have hfc := f_field_code
      go_wp2_with fail
      go_ret
      exact ⟨congrArg Ending.returned HE.out.symm, HB5.out⟩
  · have HE : Hid (errV E (reqC ⟨#[72, 69, 65, 68]⟩ h p l) = errV E (headsC l)) := by show _ = _; rw [HR.out, restC_heads c0]
    have hv : ∃ x, errV E (headsC l) = .iface 261 (.pointer (some x)) := by
      rcases HK with e | e | e
      · exact absurd e c0
      · rw [e]; exact ⟨_, rfl⟩
      · rw [e]; exact ⟨_, rfl⟩
    obtain ⟨x, hx⟩ := hv
    rw [hx] at C4 HE
    clear HR HI HS HK HE0 c0 hx
    generalize headsC l = c at *
    generalize l.length = n at *
    go_wp2_with fail
    refine C4.mono ?_
    rintro e w4 ⟨rfl, hw⟩
    obtain rfl := hw.symm
    clear C4 hw
    go_wp2_with fail
    go_ret
    exact ⟨congrArg Ending.returned HE.out.symm, HB3.out⟩
set_option maxHeartbeats 1000000 in
theorem implReqE_any (E : Errs) (w : World) (m h p : ByteArray) (a : Option Addr) (cap : Nat) (l : List Hdr) (hl : l.length ≤ 1048576) (hcap : l.length ≤ cap) (hps : p.size ≤ 1048576) (hset : SetIs w) (hE : ErrsIs w E) (hi : HdsIn w a l) :
    Calls Tryz.prog 72 #[.agg #[.string m, .string h, .string p, .slice a l.length cap]] w fun e w' => e = .returned (errV E (reqC m h p l)) ∧ Below w.heap.size w w' := by
  by_cases c1 : m = ⟨#[71, 69, 84]⟩
  · subst c1; exact implReq_get E w h p a cap l hl hcap hps hset hE hi
  by_cases c2 : m = ⟨#[72, 69, 65, 68]⟩
  · subst c2; exact implReq_head E w h p a cap l hl hcap hps hset hE hi
  have HE : Hid (errV E (reqC m h p l) = .iface 261 (.pointer (some E.u))) := by
    show _ = _
    rw [reqC_bad (by
      have : methS m = false := by simp only [methS, getT, headT, c1, c2, decide_false]; rfl
      simp [lineS, this])]
    rfl
  have d1 : (m.toList == [71, 69, 84]) = false := lit_ne c1
  have d2 : (m.toList == [72, 69, 65, 68]) = false := lit_ne c2
  clear c1 c2
  have HB : Hid (Below w.heap.size w (w.alloc (.cells #[.string m, .string h, .string p, .slice a l.length cap] 26))) := (Below.refl _ _).alloc (Nat.le_refl _) _
  have gU := (hE.below HB.out).gU
  clear hi hset hE
  generalize l.length = n at *
  go_enter Tryz.func72, Tryz.ntmps72
  go_wp2_with fail
  go_ret
  exact ⟨congrArg Ending.returned HE.out.symm, HB.out⟩
set_option maxHeartbeats 1000000 in
theorem implReq_any (E : Errs) (w : World) (m h p : ByteArray) (a : Option Addr) (cap : Nat) (l : List Hdr) (hl : l.length ≤ 1048576) (hcap : l.length ≤ cap) (hps : p.size ≤ 1048576) (hset : SetIs w) (hE : ErrsIs w E) (hi : HdsIn w a l) :
    Calls Tryz.prog 18 #[.agg #[.string m, .string h, .string p, .slice a l.length cap]] w fun e w' => e = .returned (.int .i64 (reqC m h p l)) ∧ Below w.heap.size w w' := by
  have bW : Below w.heap.size w (w.alloc (.cells #[.string m, .string h, .string p, .slice a l.length cap] 26)) := (Below.refl _ _).alloc (Nat.le_refl _) _
  have C1 := implReqE_any E _ m h p a cap l hl hcap hps (hset.below bW) (hE.below bW) (hi.keep bW)
  have HK := reqC_codes m h p l
  have C2 : Hid (∀ X, ErrsIs X E → Calls Tryz.prog 71 #[errV E (reqC m h p l)] X fun e w' => e = .returned (.int .i64 (reqC m h p l)) ∧ w' = X) := fun X hX => codeOf_any E _ X hX (by omega)
  have HE0 : Hid (∀ X, Below w.heap.size w X → ErrsIs X E) := fun X hb => hE.below hb
  have HB : Hid (Below w.heap.size w (w.alloc (.cells #[.string m, .string h, .string p, .slice a l.length cap] 26))) := bW
  clear hi hset hE HK bW
  generalize reqC m h p l = c at *
  generalize l.length = n at *
  generalize errV E c = ev at *
  go_enter Tryz.func18, Tryz.ntmps18
  go_wp2_with fail
  refine C1.mono ?_
  rintro e w1 ⟨rfl, hb1⟩
  have HB1 : Hid (Below w.heap.size w w1) := HB.out.trans (hb1.mono HB.out.size)
  have C3 := C2.out w1 (HE0.out _ HB1.out)
  clear hb1 HB C1 C2 HE0
  go_wp2_with fail
  refine C3.mono ?_
  rintro e w2 ⟨rfl, hw⟩
  obtain rfl := hw.symm
  clear hw C3
  go_wp2_with fail
  go_ret
  exact ⟨rfl, HB1.out⟩
end Go.Proofs.YtojcjpdgjohldaaGreatDoor
/-
  What the model's l4Read and ReadHeaders answer.
-/
namespace Go.Proofs.YtojcjpdgjohldaaGreatDoor
open Go.ChangeShapes Go.WideShapes Go.ChangeAt Go.RowKit Go.Sort
theorem wpAny_seq3 {P : Program} {md : Region.Mode} {ops : Array Oper} {Q : Exit → Act → World → Prop} {k : Nat} {o1 o2 o3 : Oper} {listed : Array Bool} {a : Act} {w : World} (h1 : ops[k]? = some o1) (h2 : ops[k + 1]? = some o2) (h3 : ops[k + 2]? = some o3) (h4 : ops.size = k + 3)
    (hB : Region.seqB md ops 3 k listed = true) (h : wpList P ops Q [o1, o2, o3] a w) : wpAny P md ops Q 3 listed a w :=
  wpAny_of_seq [o1, o2, o3] k listed a w (fun j => by
    match j with
    | 0 => simpa using h1.symm
    | 1 => simpa using h2.symm
    | 2 => simpa using h3.symm
    | j + 3 => rw [Array.getElem?_eq_none (by omega)]; simp) hB h
def HReadRes (s : ByteArray) (base : Nat) (e : Ending) (w : World) : Prop := ∃ v, e = .returned (.tuple #[v, .int .i64 (readHC s)]) ∧ OwnH w base v (readHL s)
theorem HReadRes.mk {s : ByteArray} {base : Nat} {w : World} {v : Value} {c : Int} {L : List Hdr} (h : readHC s = c ∧ readHL s = L) (ho : OwnH w base v L) : HReadRes s base (.returned (.tuple #[v, .int .i64 c])) w := ⟨v, by rw [h.1], by rw [h.2]; exact ho⟩
theorem readT_of_none {l : List UInt8} (h : linesO l = none) : readT l = none := by unfold readT; rw [h]; rfl
theorem readT_of_some {l : List UInt8} {P : List (List UInt8)} (h : linesO l = some P) : readT l = readLs P := by unfold readT; rw [h]; rfl
theorem cl_get (p : List UInt8) (k : Nat) (h : k < (hmk p).size) : (hmk p)[k] = p[k]'(by rw [hmk_size] at h; exact h) := by
  rfl
theorem hext_take (p : List UInt8) (k : Nat) : (hmk p).extract 0 k = hmk (p.take k) := by
  rw [hext_mk, hmk_list]; simp
theorem hext_drop (p : List UInt8) (k : Nat) : (hmk p).extract k (hmk p).size = hmk (p.drop k) := by
  rw [hext_mk, hmk_list, hmk_size, List.take_of_length_le (by rw [List.length_drop]; exact Nat.le_refl _)]
set_option maxRecDepth 100000 in
set_option maxHeartbeats 16000000 in
theorem l4Read_any (s : ByteArray) (w : World) (hs : ¬ 6000 < s.size) :
    Calls Tryz.prog 131 #[.string s] w fun e w' => HReadRes s w.heap.size e w' ∧ Below w.heap.size w w' := by
  have HP : Hid (∀ w, Calls Tryz.prog 174 #[.string s] w fun e w' => LinesRes s w.heap.size e w' ∧ Below w.heap.size w w') := fun w => l4Lines_any s w (by omega)
  have R5 : Hid (readT s.data.toList = none → readHC s = 5 ∧ readHL s = []) := fun h => readH_bad hs h
  have RF : Hid (∀ L, readT s.data.toList = some L → headsC L ≠ 0 → readHC s = headsC L ∧ readHL s = []) := fun L h1 h2 => readH_fault hs h1 h2
  have R0 : Hid (∀ L, readT s.data.toList = some L → headsC L = 0 → readHC s = 0 ∧ readHL s = L) := fun L h1 h2 => readH_ok hs h1 h2
  go_enter Tryz.func131, Tryz.ntmps131
  go_wp2_with fail
  refine (HP.out _).mono ?_
  rintro e w1 ⟨⟨v, O, ok, rfl, ho, hol, h1, h2⟩, hb1⟩
  have HB1 : Hid (Below w.heap.size w w1) := hb1
  have hzb1 := hb1.size
  clear hb1 HP
  cases ok
  · have HX : Hid (readHC s = 5 ∧ readHL s = []) := R5.out (readT_of_none (h2 rfl))
    clear h1 h2 R5 RF R0 ho
    go_wp2_with fail
    go_ret2
    exact ⟨HReadRes.mk HX.out (OwnH.nil _ _), HB1.out⟩
  have HT : Hid (readT s.data.toList = readLs O) := readT_of_some (h1 rfl)
  have hpl := (linesO_len _ _ O (Nat.le_refl _) (h1 rfl)).2
  have HPL : Hid (∀ p ∈ O, p.length ≤ 6000) := fun p hp => by have := hpl p hp; rw [hsize_list] at this; omega
  clear h1 h2 hpl
  obtain ⟨va, vc, hv, _⟩ := ho.shape
  rw [List.length_map] at hv
  subst hv
  have HO1 : Hid (OwnS w1 0 (.slice va O.length vc) (O.map hmk)) := OwnS.lower ho (Nat.zero_le _)
  clear ho
  generalize hn : O.length = n at *
  have HN : Hid (O.length = n) := hn
  clear hn
  go_wp2_with fail
  go_loopw [6, 7] (fun v i wr => ∃ (k : Nat) (R : List Hdr), k ≤ n ∧ R.length ≤ k ∧ i = .int .i64 k ∧ OwnH wr w.heap.size v R ∧ readLs O = (readLs (O.drop k)).map (R ++ ·) ∧ Below w.heap.size w wr ∧ OwnS wr 0 (.slice va n vc) (O.map hmk)) (fun _ i _ => n - (intOf i).toNat)
  case atStart => exact ⟨0, [], Nat.zero_le _, Nat.le_refl _, rfl, OwnH.made0 w1 w.heap.size hzb1, by simp, HB1.out.alloc hzb1 _, HO1.out.below ((Below.refl _ _).alloc (Nat.le_refl _) _)⟩
  case round =>
    obtain ⟨k, R, hk, hR, rfl, hown, hrd, hb, hat⟩ := hrel
    have HO : Hid (OwnH wr w.heap.size u6 R) := hown
    have HD : Hid (readLs O = (readLs (O.drop k)).map (R ++ ·)) := hrd
    have HB : Hid (Below w.heap.size w wr) := hb
    have HTx : Hid (OwnS wr 0 (.slice va n vc) (O.map hmk)) := hat
    have hz := hb.size
    clear hown hrd hb hat HB1 HO1
    by_cases hlt : k < n
    · obtain ⟨p, hp⟩ : ∃ p, O[k]? = some p := ⟨O[k]'(by have := HN.out; omega), List.getElem?_eq_getElem _⟩
      obtain ⟨a2, c2, hv2, hcell⟩ := HTx.out.shape
      obtain ⟨g, hg, c1⟩ := hcell k (hmk p) (by rw [List.getElem?_map, hp]; rfl)
      have ha2 : va = a2 := (Value.slice.inj hv2).1
      subst ha2
      subst hg
      have hpz : p.length ≤ 6000 := HPL.out p (List.mem_of_getElem? hp)
      have hdr : O.drop k = p :: O.drop (k + 1) := by
        obtain ⟨hk2, rfl⟩ := List.getElem?_eq_some_iff.1 hp
        exact List.drop_eq_getElem_cons hk2
      have D2 : ¬ clAt p < p.length → readLs O = none := fun h => by rw [HD.out, hdr, readLs_bad h]; rfl
      have D3 : clAt p < p.length → readLs O = (readLs (O.drop (k + 1))).map ((R ++ [lineOf p]) ++ ·) := fun h => by
        rw [HD.out, hdr, readLs_take h, Option.map_map]
        congr 1
        funext x
        simp
      have EL : lineOf p = ⟨(hmk p).extract 0 (clAt p), trimT ((hmk p).extract (clAt p + 1) (hmk p).size)⟩ := by rw [hext_take, hext_drop]; rfl
      rw [EL] at D3
      have hps : (hmk p).size = p.length := hmk_size p
      have hon : ∀ j, j ≤ clAt p → (h : j < (hmk p).size) → ((hmk p)[j] = 58 → clAt p = j) ∧ (¬ (hmk p)[j] = 58 → j + 1 ≤ clAt p) := fun j hj h => by
        have := clAt_on p j hj (by rw [hps] at h; exact h)
        rw [cl_get p j h]
        exact this
      have hle := clAt_le p
      have gk : (k : Int) < n := by omega
      rw [← hps] at hpz hle D2 D3
      clear hdr hp HD EL hps hcell hv2
      generalize hmk p = pb at *
      generalize clAt p = q at *
      have HD2 : Hid (¬ q < pb.size → readLs O = none) := D2
      have HD3 : Hid (q < pb.size → readLs O = (readLs (O.drop (k + 1))).map ((R ++ [⟨pb.extract 0 q, trimT (pb.extract (q + 1) pb.size)⟩]) ++ ·)) := D3
      have HON : Hid (∀ j, j ≤ q → (h : j < pb.size) → (pb[j] = 58 → q = j) ∧ (¬ pb[j] = 58 → j + 1 ≤ q)) := hon
      clear D2 D3 hon
      have gk0 : (0 : Int) ≤ k := by omega
      go_wp2_with fail
      go_loop [8] (fun x => ∃ j : Nat, j ≤ q ∧ x = .int .i64 (j : Int)) (fun x => pb.size - (intOf x).toNat)
      case atStart => exact ⟨0, Nat.zero_le _, rfl⟩
      case round =>
        obtain ⟨j, hj, rfl⟩ := hrel
        by_cases hjs : j < pb.size
        · have gj : (j : Int) < pb.size := by omega
          have gj0 : (0 : Int) ≤ j := by omega
          obtain ⟨o1, o2⟩ := HON.out j hj hjs
          by_cases h58 : (pb[j].toNat : Int) = 58
          · have hqj : q = j := o1 ((u8_58 _).2 h58)
            have d58 : ((pb[j].toNat : Int) != 58) = false := by simpa using h58
            have gne : ¬ (j : Int) = pb.size := by omega
            have HY0 := HD3.out (by omega)
            rw [hqj] at HY0
            have HTR0 := fun w => l1Trim_big (pb.extract (j + 1) pb.size) w (by rw [ByteArray.size_extract]; omega)
            obtain ⟨tv, htv⟩ : ∃ tv, Hid (trimT (pb.extract (j + 1) pb.size) = tv) := ⟨_, rfl⟩
            rw [htv.out] at HY0
            have HTR : Hid (∀ w, Calls Tryz.prog 160 #[.string (pb.extract (j + 1) pb.size)] w fun e w' => e = .returned (.string tv) ∧ w' = w) := by
              rw [htv.out] at HTR0
              exact HTR0
            have HY : Hid (readLs O = (readLs (O.drop (k + 1))).map ((R ++ [⟨pb.extract 0 j, tv⟩]) ++ ·)) := HY0
            clear o1 o2 HY0 HTR0 htv HD2 HD3 HON
            go_wp2_with fail
            refine wp_region_any (by kernel_rfl) ?_
            change wpAny _ _ _ _ _ _ _ (World.drew _)
            obtain ⟨Z, hZ⟩ : ∃ X, X = wr.drew := ⟨_, rfl⟩
            rw [← hZ]
            have KZ : Below wr.heap.size wr Z := by
              rw [hZ]
              exact (Below.refl _ _).drew
            have cZ := hkeep KZ c1
            have HOZ : Hid (OwnH Z w.heap.size u6 R) := HO.out.below KZ
            have HTZ : Hid (OwnS Z 0 (.slice (some ⟨g, 0, none⟩) n vc) (O.map hmk)) := HTx.out.below KZ
            have HBZ : Hid (Below w.heap.size w Z) := HB.out.trans (KZ.mono hz)
            have hzZ := HBZ.out.size
            have gj1 : (0 : Int) ≤ (j : Int) + 1 := by omega
            have gj2 : (j : Int) + 1 ≤ pb.size := by omega
            have gj3 : (j : Int) ≤ pb.size := by omega
            clear hZ KZ HO HTx HB c1
            refine wpAny_take (i := 0) (v := u6) rfl (by kernel_rfl) (by kernel_rfl) (by kernel_rfl) (fun _ _ _ h => h) (Or.inl ⟨by kernel_rfl, ?_⟩) ?_
            · intro w; go_simp
            refine wpAny_take (i := 1) (v := .slice (some ⟨g, 0, none⟩) n vc) rfl (by kernel_rfl) (by kernel_rfl) (by kernel_rfl) (fun _ _ _ h => h) (Or.inl ⟨by kernel_rfl, ?_⟩) ?_
            · intro w; go_simp
            refine wpAny_take (i := 2) (v := .int .i64 (k : Int)) rfl (by kernel_rfl) (by kernel_rfl) (by kernel_rfl) (fun _ _ _ h => h) (Or.inl ⟨by kernel_rfl, ?_⟩) ?_
            · intro w; go_simp
            refine wpAny_take (i := 3) (v := .pointer (some ⟨g, k, none⟩)) rfl (by kernel_rfl) (by kernel_rfl) (by kernel_rfl) (fun _ _ _ h => h) (Or.inl ⟨by kernel_rfl, ?_⟩) ?_
            · intro w; go_simp
            refine wpAny_take (i := 5) (v := .int .i64 (j : Int)) rfl (by kernel_rfl) (by kernel_rfl) (by kernel_rfl) (fun _ _ _ h => h) (Or.inl ⟨by kernel_rfl, ?_⟩) ?_
            · intro w; go_simp
            refine wpAny_take (i := 7) (v := .slice (some ⟨g, 0, none⟩) n vc) rfl (by kernel_rfl) (by kernel_rfl) (by kernel_rfl) (fun _ _ _ h => h) (Or.inl ⟨by kernel_rfl, ?_⟩) ?_
            · intro w; go_simp
            refine wpAny_take (i := 8) (v := .int .i64 (k : Int)) rfl (by kernel_rfl) (by kernel_rfl) (by kernel_rfl) (fun _ _ _ h => h) (Or.inl ⟨by kernel_rfl, ?_⟩) ?_
            · intro w; go_simp
            refine wpAny_take (i := 9) (v := .pointer (some ⟨g, k, none⟩)) rfl (by kernel_rfl) (by kernel_rfl) (by kernel_rfl) (fun _ _ _ h => h) (Or.inl ⟨by kernel_rfl, ?_⟩) ?_
            · intro w; go_simp
            refine wpAny_take (i := 11) (v := .int .i64 (j : Int)) rfl (by kernel_rfl) (by kernel_rfl) (by kernel_rfl) (fun _ _ _ h => h) (Or.inl ⟨by kernel_rfl, ?_⟩) ?_
            · intro w; go_simp
            refine wpAny_take (i := 12) (v := .int .i64 ((j : Int) + 1)) rfl (by kernel_rfl) (by kernel_rfl) (by kernel_rfl) (fun _ _ _ h => h) (Or.inl ⟨by kernel_rfl, ?_⟩) ?_
            · intro w; go_simp; rw [IntKind.wrap_i64]; omega
            refine wpAny_ready (rs := [4, 10]) (by kernel_rfl) (by simp) ?_
            refine AllReady.cons rfl (fun K hK => ?_) (AllReady.cons rfl (fun K hK => ?_) AllReady.nil)
            · go_simp
              refine hK _ _ ?_
              clear hK K
              refine wpAny_take (i := 6) (v := .string (pb.extract 0 j)) rfl (by kernel_rfl) (by kernel_rfl) (by kernel_rfl) (fun _ _ _ h => h) (Or.inl ⟨by kernel_rfl, ?_⟩) ?_
              · intro w; go_simp
              refine wpAny_ready (rs := [10]) (by kernel_rfl) (by simp) ?_
              refine AllReady.cons rfl (fun K hK => ?_) AllReady.nil
              go_simp
              refine hK _ _ ?_
              clear hK K
              refine wpAny_take (i := 13) (v := .string (pb.extract (j + 1) pb.size)) rfl (by kernel_rfl) (by kernel_rfl) (by kernel_rfl) (fun _ _ _ h => h) (Or.inl ⟨by kernel_rfl, ?_⟩) ?_
              · intro w; go_simp
              refine wpAny_ready (rs := [14]) (by kernel_rfl) (by simp) ?_
              refine AllReady.cons rfl (fun K hK => ?_) AllReady.nil
              go_simp
              go_wp2_with fail
              refine (HTR.out _).mono ?_
              rintro e wz ⟨rfl, rfl⟩
              refine hK _ _ ?_
              clear hK K
              refine wpAny_take (i := 15) (v := .agg #[.string (pb.extract 0 j), .string tv]) rfl (by kernel_rfl) (by kernel_rfl) (by kernel_rfl) (fun _ _ _ h => h) (Or.inl ⟨by kernel_rfl, ?_⟩) ?_
              · intro w; go_simp
              refine wpAny_seq3 (k := 16) (o1 := Oper.mk _ _ _ _ _ _) (o2 := Oper.mk _ _ _ _ _ _) (o3 := Oper.mk _ _ _ _ _ _) rfl rfl rfl rfl (by kernel_rfl) ?_
              go_wp2_with (at_builtin; refine wpList_append_hdr _ rfl (.tmp 49) (.tmp 65) rfl w.heap.size _ R (pb.extract 0 j) tv rfl rfl HOZ.out (by omega) hzZ ?_; intro v5 w5 HO5 hb5 hz5 hk5)
              go_roundw
              case rel => exact ⟨k + 1, R ++ [⟨pb.extract 0 j, tv⟩], by omega, by simp; omega, by go_num, HO5, HY.out, HBZ.out.trans hb5, hk5 _ _ _ HTZ.out⟩
              case measure => simp [intOf]; omega
            · go_simp
              refine hK _ _ ?_
              clear hK K
              refine wpAny_take (i := 13) (v := .string (pb.extract (j + 1) pb.size)) rfl (by kernel_rfl) (by kernel_rfl) (by kernel_rfl) (fun _ _ _ h => h) (Or.inl ⟨by kernel_rfl, ?_⟩) ?_
              · intro w; go_simp
              refine wpAny_ready (rs := [4, 14]) (by kernel_rfl) (by simp) ?_
              refine AllReady.cons rfl (fun K hK => ?_) (AllReady.cons rfl (fun K hK => ?_) AllReady.nil)
              · go_simp
                refine hK _ _ ?_
                clear hK K
                refine wpAny_take (i := 6) (v := .string (pb.extract 0 j)) rfl (by kernel_rfl) (by kernel_rfl) (by kernel_rfl) (fun _ _ _ h => h) (Or.inl ⟨by kernel_rfl, ?_⟩) ?_
                · intro w; go_simp
                refine wpAny_ready (rs := [14]) (by kernel_rfl) (by simp) ?_
                refine AllReady.cons rfl (fun K hK => ?_) AllReady.nil
                go_simp
                go_wp2_with fail
                refine (HTR.out _).mono ?_
                rintro e wz ⟨rfl, rfl⟩
                refine hK _ _ ?_
                clear hK K
                refine wpAny_take (i := 15) (v := .agg #[.string (pb.extract 0 j), .string tv]) rfl (by kernel_rfl) (by kernel_rfl) (by kernel_rfl) (fun _ _ _ h => h) (Or.inl ⟨by kernel_rfl, ?_⟩) ?_
                · intro w; go_simp
                refine wpAny_seq3 (k := 16) (o1 := Oper.mk _ _ _ _ _ _) (o2 := Oper.mk _ _ _ _ _ _) (o3 := Oper.mk _ _ _ _ _ _) rfl rfl rfl rfl (by kernel_rfl) ?_
                go_wp2_with (at_builtin; refine wpList_append_hdr _ rfl (.tmp 49) (.tmp 65) rfl w.heap.size _ R (pb.extract 0 j) tv rfl rfl HOZ.out (by omega) hzZ ?_; intro v5 w5 HO5 hb5 hz5 hk5)
                go_roundw
                case rel => exact ⟨k + 1, R ++ [⟨pb.extract 0 j, tv⟩], by omega, by simp; omega, by go_num, HO5, HY.out, HBZ.out.trans hb5, hk5 _ _ _ HTZ.out⟩
                case measure => simp [intOf]; omega
              · go_simp
                go_wp2_with fail
                refine (HTR.out _).mono ?_
                rintro e wz ⟨rfl, rfl⟩
                refine hK _ _ ?_
                clear hK K
                refine wpAny_ready (rs := [4]) (by kernel_rfl) (by simp) ?_
                refine AllReady.cons rfl (fun K hK => ?_) AllReady.nil
                go_simp
                refine hK _ _ ?_
                clear hK K
                refine wpAny_take (i := 6) (v := .string (pb.extract 0 j)) rfl (by kernel_rfl) (by kernel_rfl) (by kernel_rfl) (fun _ _ _ h => h) (Or.inl ⟨by kernel_rfl, ?_⟩) ?_
                · intro w; go_simp
                refine wpAny_take (i := 15) (v := .agg #[.string (pb.extract 0 j), .string tv]) rfl (by kernel_rfl) (by kernel_rfl) (by kernel_rfl) (fun _ _ _ h => h) (Or.inl ⟨by kernel_rfl, ?_⟩) ?_
                · intro w; go_simp
                refine wpAny_seq3 (k := 16) (o1 := Oper.mk _ _ _ _ _ _) (o2 := Oper.mk _ _ _ _ _ _) (o3 := Oper.mk _ _ _ _ _ _) rfl rfl rfl rfl (by kernel_rfl) ?_
                go_wp2_with (at_builtin; refine wpList_append_hdr _ rfl (.tmp 49) (.tmp 65) rfl w.heap.size _ R (pb.extract 0 j) tv rfl rfl HOZ.out (by omega) hzZ ?_; intro v5 w5 HO5 hb5 hz5 hk5)
                go_roundw
                case rel => exact ⟨k + 1, R ++ [⟨pb.extract 0 j, tv⟩], by omega, by simp; omega, by go_num, HO5, HY.out, HBZ.out.trans hb5, hk5 _ _ _ HTZ.out⟩
                case measure => simp [intOf]; omega
          · have hqj := o2 (fun e => h58 ((u8_58 _).1 e))
            have d58 : ((pb[j].toNat : Int) != 58) = true := by simpa using h58
            clear o1 o2
            go_wp2_with fail
            go_round
            case rel => exact ⟨j + 1, hqj, by go_num⟩
            case measure => simp [intOf]; omega
        · have hqj : q = j := by omega
          have gj : ¬ (j : Int) < pb.size := by omega
          have gd : decide ((j : Int) < pb.size) = false := by simpa using gj
          have gje : (j : Int) = pb.size := by omega
          have HX : Hid (readHC s = 5 ∧ readHL s = []) := R5.out (by rw [HT.out]; exact HD2.out (by omega))
          have hjq : j = pb.size := by omega
          subst hjq
          clear HD2 HD3 HON
          go_wp2_with fail
          go_ret2
          exact ⟨HReadRes.mk HX.out (OwnH.nil _ _), HB.out⟩
    · have HX : Hid (readT s.data.toList = some R) := by
        show _ = _
        rw [HT.out, HD.out, List.drop_of_length_le (by have := HN.out; omega)]
        simp [readLs]
      obtain ⟨ra, rc, hra, hin⟩ := HO.out.at
      subst hra
      have hRn : R.length ≤ 6000 := by omega
      have HF := specHFault_any wr ra rc R (by omega) hin
      clear HD HTx hin
      by_cases h0 : headsC R = 0
      · have HY : Hid (readHC s = 0 ∧ readHL s = R) := R0.out R HX.out h0
        rw [h0] at HF
        have HO2 : Hid (OwnH wr w.heap.size (.slice ra R.length rc) R) := HO.out
        clear HX h0 HO
        generalize R.length = rn at *
        go_wp2_with fail
        refine HF.mono ?_
        rintro e w2 ⟨rfl, hb2⟩
        have HB2 : Hid (Below w.heap.size w w2) := HB.out.trans (hb2.mono hz)
        have HO3 : Hid (OwnH w2 w.heap.size (.slice ra rn rc) R) := HO2.out.below hb2
        clear hb2 HB HO2 HF
        go_wp2_with fail
        go_ret2
        exact ⟨HReadRes.mk HY.out HO3.out, HB2.out⟩
      · have HY : Hid (readHC s = headsC R ∧ readHL s = []) := RF.out R HX.out h0
        generalize headsC R = fc at *
        clear HX HO
        generalize R.length = rn at *
        go_wp2_with fail
        refine HF.mono ?_
        rintro e w2 ⟨rfl, hb2⟩
        have HB2 : Hid (Below w.heap.size w w2) := HB.out.trans (hb2.mono hz)
        clear hb2 HB HF
        go_wp2_with fail
        go_ret2
        exact ⟨HReadRes.mk HY.out (OwnH.nil _ _), HB2.out⟩
end Go.Proofs.YtojcjpdgjohldaaGreatDoor
/-
  What ReadHeaders and its model answer.
-/
namespace Go.Proofs.YtojcjpdgjohldaaGreatDoor
open Go.ChangeShapes Go.WideShapes Go.ChangeAt Go.RowKit Go.Sort
set_option maxHeartbeats 2000000 in
theorem specRead_any (s : ByteArray) (w : World) :
    Calls Tryz.prog 85 #[.string s] w fun e w' => HRes (readHC s) (readHL s) w.heap.size e w' ∧ Below w.heap.size w w' := by
  by_cases hs : 6000 < s.size
  · have hh : (6000 : Int) < s.size := by omega
    have HL : Hid (readHC s = 2 ∧ readHL s = []) := readH_long hs
    go_enter Tryz.func85, Tryz.ntmps85
    go_wp2
    exact bodyPost_ret (v := .agg #[.int .i64 2, .slice none 0 0]) (by simp [results, Tryz.results85, go_sem]) rfl ⟨HRes.mk HL.out (OwnH.nil _ _), (Below.refl _ _).alloc (Nat.le_refl _) _⟩
  have hh : ¬ (6000 : Int) < s.size := by omega
  have HP : Hid (∀ W, Calls Tryz.prog 131 #[.string s] W fun e w' => HReadRes s W.heap.size e w' ∧ Below W.heap.size W w') := fun W => l4Read_any s W hs
  clear hs
  go_enter Tryz.func85, Tryz.ntmps85
  go_wp2_with fail
  refine (HP.out _).mono ?_
  rintro e w1 ⟨⟨v, rfl, ho⟩, hb⟩
  simp only [World.size_alloc] at ho hb
  obtain ⟨hz, q0, q1, f0, f1, kb⟩ := heads_room hb
  obtain ⟨va, vc, hv, _⟩ := ho.at
  generalize hn : (readHL s).length = vn at hv
  subst hv
  obtain ⟨c, hc⟩ : ∃ c, Hid (readHC s = c) := ⟨_, rfl⟩
  rw [hc.out]
  have KO : Hid (OwnH w1 (w.heap.size + 1) (.slice va vn vc) (readHL s)) := ho
  obtain ⟨r0, r1⟩ := two_set (v0 := .int .i64 c) (v1 := .slice va vn vc) q0 q1
  clear hb ho HP hn
  go_wp2_with fail
  exact bodyPost_ret (v := .agg #[.int .i64 c, .slice va vn vc]) (by simp [results, Tryz.results85, go_sem, r0, r1]) rfl ⟨HRes.mk ⟨hc.out, rfl⟩ ((ownH_set (ownH_set KO.out (Nat.lt_succ_self _)) (Nat.lt_succ_self _)).lower (Nat.le_succ _)), (kb.setCell (Nat.le_refl _) _).setCell (Nat.le_refl _) _⟩
/-- The library's own variable holds some number. -/
def MaxIs (w : World) : Prop := ∃ m, w.cell? ⟨5, 0, none⟩ = some (.int .i64 m)
theorem MaxIs.below {w w' : World} (h : MaxIs w) (hb : Below w.heap.size w w') : MaxIs w' := by
  obtain ⟨m, h⟩ := h
  exact ⟨m, hkeep hb h⟩
theorem below_drewN (w : World) (n : Nat) : Below w.heap.size w (w.drewN n) :=
  have h := Below.refl w.heap.size w
  ⟨h.os, h.tape, h.output, h.size, h.block⟩
theorem hcut_cr (l : List UInt8) (w : World) (hm : MaxIs w) (hl : l.length ≤ 6000) (h : crAt l < l.length) :
    Calls Tryz.prog 95 #[.string (hmk l), .string ⟨#[13, 10]⟩] w fun e w' => e = .returned (.tuple #[.string (hmk (l.take (crAt l))), .string (hmk (l.drop (crAt l + 2))), .bool true]) ∧ Below w.heap.size w w' := by
  obtain ⟨m, hm⟩ := hm
  have := Any.strings_Cut Tryz.laysM145.ton145 (hmk l) ⟨#[13, 10]⟩ m w (by rw [hmk_size]; omega) hm
  rw [hmk_list, show (⟨#[13, 10]⟩ : ByteArray).data.toList = [13, 10] from rfl, cut_cr h] at this
  exact this.mono fun e w' ⟨h1, n, h2⟩ => ⟨h1, h2 ▸ below_drewN w n⟩
theorem hcut_cl (l : List UInt8) (w : World) (hm : MaxIs w) (hl : l.length ≤ 6000) (h : clAt l < l.length) :
    Calls Tryz.prog 95 #[.string (hmk l), .string ⟨#[58]⟩] w fun e w' => e = .returned (.tuple #[.string (hmk (l.take (clAt l))), .string (hmk (l.drop (clAt l + 1))), .bool true]) ∧ Below w.heap.size w w' := by
  obtain ⟨m, hm⟩ := hm
  have := Any.strings_Cut Tryz.laysM145.ton145 (hmk l) ⟨#[58]⟩ m w (by rw [hmk_size]; omega) hm
  rw [hmk_list, show (⟨#[58]⟩ : ByteArray).data.toList = [58] from rfl, cut_cl h] at this
  exact this.mono fun e w' ⟨h1, n, h2⟩ => ⟨h1, h2 ▸ below_drewN w n⟩
theorem hcut_no (l : List UInt8) (w : World) (hm : MaxIs w) (hl : l.length ≤ 6000) (h : ¬ clAt l < l.length) :
    Calls Tryz.prog 95 #[.string (hmk l), .string ⟨#[58]⟩] w fun e w' => e = .returned (.tuple #[.string (hmk l), .string ⟨#[]⟩, .bool false]) ∧ Below w.heap.size w w' := by
  obtain ⟨m, hm⟩ := hm
  have := Any.strings_Cut Tryz.laysM145.ton145 (hmk l) ⟨#[58]⟩ m w (by rw [hmk_size]; omega) hm
  rw [hmk_list, show (⟨#[58]⟩ : ByteArray).data.toList = [58] from rfl, cut_cl_no h] at this
  exact this.mono fun e w' ⟨h1, n, h2⟩ => ⟨h1, h2 ▸ below_drewN w n⟩
theorem hsuffix (s : ByteArray) (w : World) (hs : s.size ≤ 6000) (h0 : ¬ s.data.toList = []) :
    Calls Tryz.prog 124 #[.string s, .string ⟨#[13, 10]⟩] w fun e w' => e = .returned (.bool (linesO s.data.toList).isSome) ∧ w' = w := by
  have := Any.strings_HasSuffix Tryz.lays100 s ⟨#[13, 10]⟩ w (by omega)
  rw [show Lib.hasSuffix s.data.toList (⟨#[13, 10]⟩ : ByteArray).data.toList = (linesO s.data.toList).isSome from (linesO_suffix _ _ (Nat.le_refl _) h0).symm] at this
  exact this
theorem hmk_empty {l : List UInt8} (h : ¬ l = []) : (hmk l).toList.isEmpty = false := by
  rw [ByteArray.toList_eq, hmk_list]
  cases l with
  | nil => exact absurd rfl h
  | cons c r => rfl
theorem str_hmk (s : ByteArray) : s = hmk s.data.toList := by cases s; simp [hmk]
theorem linesO_found {l : List UInt8} (h0 : ¬ l = []) (h : (linesO l).isSome = true) : crAt l < l.length ∧ (linesO (l.drop (crAt l + 2))).isSome = true := by
  by_cases c : crAt l < l.length
  · refine ⟨c, ?_⟩
    rw [linesO_cut c, Option.isSome_map] at h
    exact h
  · rw [linesO_bad h0 c] at h; cases h
theorem readT_none_of {l : List UInt8} (h : (linesO l).isSome = false) : readT l = none := by
  cases c : linesO l with
  | none => exact readT_of_none c
  | some P => rw [c] at h; cases h
def strLen : Value → Nat
  | .string b => b.size
  | _ => 0
theorem trim_hmk (l : List UInt8) (h : l.length ≤ 6000) : (trimT (hmk l)).size ≤ 6000 := by
  have := trimT_size (hmk l)
  rw [hmk_size] at this
  omega
/-- The loop of ReadHeaders: what is read, and what is left. -/
structure ReadAt (s : ByteArray) (R : List Hdr) (rl : List UInt8) : Prop where
  eq : readT s.data.toList = (readT rl).map (R ++ ·)
  isS : (linesO rl).isSome = true
  len : R.length + rl.length ≤ 6000
theorem ReadAt.take {s : ByteArray} {R : List Hdr} {rl : List UInt8} (h : ReadAt s R rl) (h0 : ¬ rl = []) (hc : clAt (rl.take (crAt rl)) < (rl.take (crAt rl)).length) : ReadAt s (R ++ [lineOf (rl.take (crAt rl))]) (rl.drop (crAt rl + 2)) := by
  obtain ⟨h1, h2⟩ := linesO_found h0 h.isS
  have := crAt_room rl h1
  refine ⟨?_, h2, ?_⟩
  · rw [h.eq, readT_take h1 hc, Option.map_map]
    congr 1
    funext x
    simp
  · have hl := h.len
    simp only [List.length_append, List.length_cons, List.length_nil, List.length_drop]
    omega
theorem ReadAt.bad {s : ByteArray} {R : List Hdr} {rl : List UInt8} (h : ReadAt s R rl) (h0 : ¬ rl = []) (hc : ¬ clAt (rl.take (crAt rl)) < (rl.take (crAt rl)).length) : readT s.data.toList = none := by
  rw [h.eq, readT_bad (linesO_found h0 h.isS).1 hc]
  rfl
theorem ReadAt.done {s : ByteArray} {R : List Hdr} (h : ReadAt s R []) : readT s.data.toList = some R := by
  rw [h.eq, readT_nil]
  simp
set_option maxRecDepth 100000 in
set_option maxHeartbeats 16000000 in
theorem implRead_loop (s : ByteArray) (w : World) (hs : ¬ 6000 < s.size) (hset : SetIs w) (hmx : MaxIs w) (hsome : (linesO s.data.toList).isSome = true) (hne : ¬ s.data.toList = []) :
    Calls Tryz.prog 125 #[.string s] w fun e w' => HRes (readHC s) (readHL s) w.heap.size e w' ∧ Below w.heap.size w w' := by
  have R5 : Hid (readT s.data.toList = none → readHC s = 5 ∧ readHL s = []) := fun h => readH_bad hs h
  have RF : Hid (∀ L, readT s.data.toList = some L → headsC L ≠ 0 → readHC s = headsC L ∧ readHL s = []) := fun L h1 h2 => readH_fault hs h1 h2
  have R0 : Hid (∀ L, readT s.data.toList = some L → headsC L = 0 → readHC s = 0 ∧ readHL s = L) := fun L h1 h2 => readH_ok hs h1 h2
  have hh : ¬ (6000 : Int) < s.size := by omega
  have HS : Hid (SetIs w) := hset
  have HMX : Hid (MaxIs w) := hmx
  have H0 : Hid (ReadAt s [] s.data.toList) := ⟨by simp, hsome, by rw [hsize_list]; simp; omega⟩
  have HSX : ¬ s.data.toList = [] → ∀ w, Calls Tryz.prog 124 #[.string s, .string ⟨#[13, 10]⟩] w fun e w' => e = .returned (.bool true) ∧ w' = w := fun h0 w => by
    have := hsuffix s w (by omega) h0
    rw [hsome] at this
    exact this
  have HEM := hmk_empty hne
  rw [← str_hmk] at HEM
  have HSK : Hid (.string s = Value.string (hmk s.data.toList)) := by show _ = _; rw [← str_hmk]
  have HSY := HSX hne
  clear hset hmx hsome hs HSX
  go_enter Tryz.func125, Tryz.ntmps125
  go_wp2_with fail
  refine (HSY _).mono ?_
  rintro e w1 ⟨rfl, rfl⟩
  clear HSY
  go_wp2_with fail
  go_loopw [3, 4] (fun v x wr => ∃ (R : List Hdr) (rl : List UInt8), x = .string (hmk rl) ∧ OwnH wr (w.heap.size + 1) v R ∧ ReadAt s R rl ∧ Below (w.heap.size + 1) (w.alloc (.cells #[.int .i64 0, .slice none 0 0] 109)) wr) (fun _ x _ => strLen x)
  case atStart => exact ⟨[], s.data.toList, HSK.out, OwnH.nil _ _, H0.out, Below.refl _ _⟩
  case round =>
    obtain ⟨R, rl, rfl, ho, hra, hb⟩ := hrel
    have HO : Hid (OwnH wr (w.heap.size + 1) u3 R) := ho
    have HR : Hid (ReadAt s R rl) := hra
    have hz : w.heap.size + 1 ≤ wr.heap.size := by have := hb.size; rwa [World.size_alloc] at this
    have HB : Hid (Below (w.heap.size + 1) (w.alloc (.cells #[.int .i64 0, .slice none 0 0] 109)) wr) := hb
    have hwr : Below w.heap.size w wr := (heads_room hb).2.2.2.2.2
    have HSr : Hid (SetIs wr) := HS.out.below hwr
    have HMr : Hid (MaxIs wr) := HMX.out.below hwr
    have hrl := hra.len
    clear ho hra hb H0 HSK HEM hwr
    by_cases h0 : rl = []
    · subst h0
      have HX : Hid (readT s.data.toList = some R) := HR.out.done
      obtain ⟨ra, rc, hra, hin⟩ := HO.out.at
      subst hra
      have HF := implHFault_any wr ra rc R (by omega) HSr.out hin
      clear HR hin HSr HMr
      rw [show hmk [] = ⟨#[]⟩ from rfl]
      by_cases hc : headsC R = 0
      · have HY : Hid (readHC s = 0 ∧ readHL s = R) := R0.out R HX.out hc
        rw [hc] at HF
        have HO2 : Hid (OwnH wr (w.heap.size + 1) (.slice ra R.length rc) R) := HO.out
        clear HX hc HO
        generalize R.length = rn at *
        go_wp2_with fail
        refine HF.mono ?_
        rintro e w2 ⟨rfl, hb2⟩
        obtain ⟨hz2, q0, q1, f0, f1, kb⟩ := heads_room (HB.out.trans (hb2.mono hz))
        obtain ⟨r0, r1⟩ := two_set (v0 := .int .i64 0) (v1 := .slice ra rn rc) q0 q1
        have HO3 : Hid (OwnH w2 (w.heap.size + 1) (.slice ra rn rc) R) := HO2.out.below hb2
        clear hb2 HB HO2 HF
        go_wp2_with fail
        exact bodyPost_ret (v := .agg #[.int .i64 0, .slice ra rn rc]) (by simp [results, Tryz.results125, go_sem, r0, r1]) rfl ⟨HRes.mk HY.out ((ownH_set (ownH_set HO3.out (Nat.lt_succ_self _)) (Nat.lt_succ_self _)).lower (Nat.le_succ _)), (kb.setCell (Nat.le_refl _) _).setCell (Nat.le_refl _) _⟩
      · have HY : Hid (readHC s = headsC R ∧ readHL s = []) := RF.out R HX.out hc
        generalize headsC R = fc at *
        clear HX HO
        generalize R.length = rn at *
        go_wp2_with fail
        refine HF.mono ?_
        rintro e w2 ⟨rfl, hb2⟩
        obtain ⟨hz2, q0, q1, f0, f1, kb⟩ := heads_room (HB.out.trans (hb2.mono hz))
        obtain ⟨r0, r1⟩ := two_set (v0 := .int .i64 fc) (v1 := .slice none 0 0) q0 q1
        clear hb2 HB HF
        go_wp2_with fail
        exact bodyPost_ret (v := .agg #[.int .i64 fc, .slice none 0 0]) (by simp [results, Tryz.results125, go_sem, r0, r1]) rfl ⟨HRes.mk HY.out (OwnH.nil _ _), (kb.setCell (Nat.le_refl _) _).setCell (Nat.le_refl _) _⟩
    · have hem := hmk_empty h0
      have hcr := (linesO_found h0 HR.out.isS).1
      have hroom := crAt_room rl hcr
      have HC1 : Hid (∀ W, MaxIs W → Calls Tryz.prog 95 #[.string (hmk rl), .string ⟨#[13, 10]⟩] W fun e w' => e = .returned (.tuple #[.string (hmk (rl.take (crAt rl))), .string (hmk (rl.drop (crAt rl + 2))), .bool true]) ∧ Below W.heap.size W w') := fun W h => hcut_cr rl W h (by omega) hcr
      have hpl : (rl.take (crAt rl)).length ≤ 6000 := by rw [List.length_take]; omega
      have hms : (hmk (rl.drop (crAt rl + 2))).size < (hmk rl).size := by rw [hmk_size, hmk_size, List.length_drop]; omega
      have HTK := HR.out.take h0
      have HBD := HR.out.bad h0
      generalize rl.take (crAt rl) = p at *
      generalize rl.drop (crAt rl + 2) = rr at *
      have HTK2 : Hid (clAt p < p.length → ReadAt s (R ++ [lineOf p]) rr) := HTK
      have HBD2 : Hid (¬ clAt p < p.length → readT s.data.toList = none) := HBD
      have hRl : R.length ≤ 6000 := by omega
      clear HTK HBD HR h0 hcr hroom hrl
      generalize hmk rl = rb at *
      by_cases hcl : clAt p < p.length
      · have HN : Hid (ReadAt s (R ++ [⟨hmk (p.take (clAt p)), trimT (hmk (p.drop (clAt p + 1)))⟩]) rr) := HTK2.out hcl
        have HC2 : Hid (∀ W, MaxIs W → Calls Tryz.prog 95 #[.string (hmk p), .string ⟨#[58]⟩] W fun e w' => e = .returned (.tuple #[.string (hmk (p.take (clAt p))), .string (hmk (p.drop (clAt p + 1))), .bool true]) ∧ Below W.heap.size W w') := fun W h => hcut_cl p W h hpl hcl
        have z1 : (hmk (p.take (clAt p))).size ≤ 6000 := by rw [hmk_size, List.length_take]; omega
        have hvl : (p.drop (clAt p + 1)).length ≤ 6000 := by rw [List.length_drop]; omega
        have z2 : (hmk (p.drop (clAt p + 1))).size ≤ 6000 := by rw [hmk_size]; exact hvl
        have z3 := trim_hmk _ hvl
        generalize hmk (p.take (clAt p)) = nb at *
        generalize hmk (p.drop (clAt p + 1)) = vb at *
        have HTR : Hid (∀ w, Calls Tryz.prog 168 #[.string vb, .string ⟨#[32, 9]⟩] w fun e w' => e = .returned (.string (trimT vb)) ∧ Below w.heap.size w w') := fun w => trim_big vb w (by omega)
        generalize trimT vb = tb at *
        generalize hmk p = pb at *
        clear HTK2 HBD2 hcl hvl
        go_wp2_with fail
        refine (HC1.out _ HMr.out).mono ?_
        rintro e w2 ⟨rfl, hb2⟩
        have HB2 : Hid (Below wr.heap.size wr w2) := hb2
        clear hb2
        go_wp2_with fail
        refine (HC2.out _ (HMr.out.below HB2.out)).mono ?_
        rintro e w3 ⟨rfl, hb3⟩
        have HB3 : Hid (Below wr.heap.size wr w3) := HB2.out.trans (hb3.mono HB2.out.size)
        clear hb3 HB2
        go_wp2_with fail
        refine (HTR.out _).mono ?_
        rintro e w4 ⟨rfl, hb4⟩
        have HB4 : Hid (Below wr.heap.size wr w4) := HB3.out.trans (hb4.mono HB3.out.size)
        clear hb4 HB3
        go_wp2_with fail
        refine (lineOf_any nb tb _ (by omega) (by omega)).mono ?_
        rintro e w5 ⟨rfl, hb5⟩
        have HB5 : Hid (Below wr.heap.size wr w5) := HB4.out.trans (hb5.mono HB4.out.size)
        have HO5 : Hid (OwnH w5 (w.heap.size + 1) u3 R) := HO.out.below HB5.out
        have HBw : Hid (Below (w.heap.size + 1) (w.alloc (.cells #[.int .i64 0, .slice none 0 0] 109)) w5) := HB.out.trans (HB5.out.mono hz)
        have hz5 : w.heap.size + 1 ≤ w5.heap.size := Nat.le_trans hz HB5.out.size
        clear hb5 HB4 HB5 HO HB HSr HMr
        go_wp2_with (at_builtin; refine wpList_append_hdr _ rfl (.tmp 42) (.tmp 47) rfl (w.heap.size + 1) _ R nb tb rfl rfl HO5.out (by omega) hz5 ?_; intro v6 w6 HO6 hb6 hz6 hk6)
        go_roundw
        case rel => exact ⟨R ++ [⟨nb, tb⟩], rr, rfl, HO6, HN.out, HBw.out.trans hb6⟩
        case measure => simpa [strLen] using hms
      · have HX : Hid (readHC s = 5 ∧ readHL s = []) := R5.out (HBD2.out hcl)
        have HC2 : Hid (∀ W, MaxIs W → Calls Tryz.prog 95 #[.string (hmk p), .string ⟨#[58]⟩] W fun e w' => e = .returned (.tuple #[.string (hmk p), .string ⟨#[]⟩, .bool false]) ∧ Below W.heap.size W w') := fun W h => hcut_no p W h hpl hcl
        generalize hmk p = pb at *
        clear HTK2 HBD2 hcl HO
        go_wp2_with fail
        refine (HC1.out _ HMr.out).mono ?_
        rintro e w2 ⟨rfl, hb2⟩
        have HB2 : Hid (Below wr.heap.size wr w2) := hb2
        clear hb2
        go_wp2_with fail
        refine (HC2.out _ (HMr.out.below HB2.out)).mono ?_
        rintro e w3 ⟨rfl, hb3⟩
        have HB3 : Below wr.heap.size wr w3 := HB2.out.trans (hb3.mono HB2.out.size)
        obtain ⟨hz2, q0, q1, f0, f1, kb⟩ := heads_room (HB.out.trans (HB3.mono hz))
        obtain ⟨r0, r1⟩ := two_set (v0 := .int .i64 5) (v1 := .slice none 0 0) q0 q1
        clear hb3 HB2 HB3 HB HMr HSr
        go_wp2_with fail
        exact bodyPost_ret (v := .agg #[.int .i64 5, .slice none 0 0]) (by simp [results, Tryz.results125, go_sem, r0, r1]) rfl ⟨HRes.mk HX.out (OwnH.nil _ _), (kb.setCell (Nat.le_refl _) _).setCell (Nat.le_refl _) _⟩
theorem readH_none : readHC ⟨#[]⟩ = 0 ∧ readHL ⟨#[]⟩ = [] := readH_ok (L := []) (by decide) readT_nil rfl
set_option maxRecDepth 100000 in
set_option maxHeartbeats 2000000 in
theorem implRead_none (w : World) (hset : SetIs w) :
    Calls Tryz.prog 125 #[.string ⟨#[]⟩] w fun e w' => HRes (readHC ⟨#[]⟩) (readHL ⟨#[]⟩) w.heap.size e w' ∧ Below w.heap.size w w' := by
  have HF := implHFault_any (w.alloc (.cells #[.int .i64 0, .slice none 0 0] 109)) none 0 [] (by simp) (hset.below ((Below.refl _ _).alloc (Nat.le_refl _) _)) (.inl rfl)
  rw [show headsC [] = 0 from rfl] at HF
  simp only [List.length_nil] at HF
  clear hset
  go_enter Tryz.func125, Tryz.ntmps125
  go_wp2_with fail
  go_loop [3, 4] (fun v x => v = .slice none 0 0 ∧ x = .string ⟨#[]⟩) (fun _ _ => 0)
  case atStart => exact ⟨rfl, rfl⟩
  case round =>
    obtain ⟨rfl, rfl⟩ := hrel
    go_wp2_with fail
    refine HF.mono ?_
    rintro e w2 ⟨rfl, hb2⟩
    rw [World.size_alloc] at hb2
    obtain ⟨hz2, q0, q1, f0, f1, kb⟩ := heads_room hb2
    obtain ⟨r0, r1⟩ := two_set (v0 := .int .i64 0) (v1 := .slice none 0 0) q0 q1
    clear hb2 HF
    go_wp2_with fail
    exact bodyPost_ret (v := .agg #[.int .i64 0, .slice none 0 0]) (by simp [results, Tryz.results125, go_sem, r0, r1]) rfl ⟨HRes.mk readH_none (OwnH.nil _ _), (kb.setCell (Nat.le_refl _) _).setCell (Nat.le_refl _) _⟩
set_option maxHeartbeats 2000000 in
theorem implRead_any (s : ByteArray) (w : World) (hset : SetIs w) (hmx : MaxIs w) :
    Calls Tryz.prog 125 #[.string s] w fun e w' => HRes (readHC s) (readHL s) w.heap.size e w' ∧ Below w.heap.size w w' := by
  by_cases hs : 6000 < s.size
  · have hh : (6000 : Int) < s.size := by omega
    have HL : Hid (readHC s = 2 ∧ readHL s = []) := readH_long hs
    clear hset hmx
    go_enter Tryz.func125, Tryz.ntmps125
    go_wp2
    exact bodyPost_ret (v := .agg #[.int .i64 2, .slice none 0 0]) (by simp [results, Tryz.results125, go_sem]) rfl ⟨HRes.mk HL.out (OwnH.nil _ _), (Below.refl _ _).alloc (Nat.le_refl _) _⟩
  cases hsm : (linesO s.data.toList).isSome
  · have h0 : ¬ s.data.toList = [] := fun e => by rw [e, linesO_nil] at hsm; cases hsm
    have HX : Hid (readHC s = 5 ∧ readHL s = []) := readH_bad hs (readT_none_of hsm)
    have HSX : Hid (∀ w, Calls Tryz.prog 124 #[.string s, .string ⟨#[13, 10]⟩] w fun e w' => e = .returned (.bool false) ∧ w' = w) := fun w => by
      have := hsuffix s w (by omega) h0
      rw [hsm] at this
      exact this
    have hem := hmk_empty h0
    rw [← str_hmk] at hem
    have hh : ¬ (6000 : Int) < s.size := by omega
    clear hset hmx hsm h0 hs
    go_enter Tryz.func125, Tryz.ntmps125
    go_wp2_with fail
    refine (HSX.out _).mono ?_
    rintro e w1 ⟨rfl, rfl⟩
    go_wp2_with fail
    exact bodyPost_ret (v := .agg #[.int .i64 5, .slice none 0 0]) (by simp [results, Tryz.results125, go_sem]) rfl ⟨HRes.mk HX.out (OwnH.nil _ _), (Below.refl _ _).alloc (Nat.le_refl _) _⟩
  · by_cases hne : s.data.toList = []
    · have e : s = ⟨#[]⟩ := by rw [str_hmk s, hne]; rfl
      subst e
      exact implRead_none w hset
    · exact implRead_loop s w hs hset hmx hsm hne
end Go.Proofs.YtojcjpdgjohldaaGreatDoor
/-
  The laws' comparing of two lists of items that are alike.
-/
namespace Go.Proofs.YtojcjpdgjohldaaGreatDoor
open Go.ChangeShapes Go.WideShapes Go.ChangeAt Go.RowKit Go.Sort
set_option maxRecDepth 100000 in
set_option maxHeartbeats 2000000 in
theorem eqHeaderS_same (w : World) (b1 o1 b2 o2 c1 c2 : Nat) (l : List Hdr) (hl : l.length ≤ 1048576) (h1 : HeadsAt w b1 o1 l) (h2 : HeadsAt w b2 o2 l) :
    Calls Tryz.prog 101 #[.slice (some ⟨b1, o1, none⟩) l.length c1, .slice (some ⟨b2, o2, none⟩) l.length c2] w fun e w' => e = .returned (.bool true) ∧ Below w.heap.size w w' := by
  have H1 : Hid (HeadsAt w b1 o1 l) := h1
  have H2 : Hid (HeadsAt w b2 o2 l) := h2
  clear h1 h2
  generalize hn : l.length = n at *
  have HN : Hid (l.length = n) := hn
  clear hn
  go_enter Tryz.func101, Tryz.ntmps101
  go_wp2_with fail
  go_loopw [5] (fun i wr => ∃ k : Nat, k ≤ n ∧ i = .int .i64 k ∧ Below w.heap.size w wr) (fun i _ => n - (intOf i).toNat)
  case atStart => exact ⟨0, Nat.zero_le _, rfl, Below.refl _ _⟩
  case round =>
    obtain ⟨k, hk, rfl, hb⟩ := hrel
    by_cases hlt : k < n
    · obtain ⟨r, hr⟩ : ∃ r, l[k]? = some r := ⟨l[k]'(by have := HN.out; omega), List.getElem?_eq_getElem _⟩
      obtain ⟨p1, p3⟩ := (H1.out.keep hb) k r hr
      obtain ⟨q1, q3⟩ := (H2.out.keep hb) k r hr
      have x1 := cell_regrown p1
      have x3 := cell_regrown p3
      have y1 := cell_regrown q1
      have y3 := cell_regrown q3
      have cE : ∀ d os, Calls Tryz.prog 148 #[.agg #[.string r.name, .string r.value], .agg #[.string r.name, .string r.value]] (grow (redrawn wr d) os) fun e w'' => e = .returned (.bool true) ∧ ∃ p : Regrown, w'' = grow (redrawn wr p.d) p.os := fun d os => Calls.regrown_of (eqHeader_same r _)
      have g0 : (0 : Int) ≤ k := by omega
      have g : (k : Int) < n := by omega
      clear hr p1 p3 q1 q3
      generalize r.name = rn at *
      generalize r.value = rv at *
      go_wp2_with fail
      refine wp_region_quiet_below (by kernel_rfl) (by kernel_rfl) ?_
      repeat (go_big_quiet_step ((go_at_call 148; exact cE _ _)))
      refine wpQuiet_nil ?_
      intro w2 hw2
      have hbb : Below w.heap.size w w2 := by
        obtain ⟨⟨d, os⟩, rfl⟩ := hw2
        exact hb.trans ((below_regrown wr d os).mono hb.size)
      clear x1 x3 y1 y3 cE hw2 hb
      go_wp2_with fail
      go_roundw
      case rel => exact ⟨k + 1, by omega, by go_num, hbb⟩
      case measure => simp [intOf]; omega
    · go_wp2_with fail
      go_ret
      exact ⟨rfl, hb⟩
end Go.Proofs.YtojcjpdgjohldaaGreatDoor
/-
  What the model's SameHeaders and slices.Equal over head lines answer.
-/
namespace Go.Proofs.YtojcjpdgjohldaaGreatDoor
open Go.ChangeShapes Go.WideShapes Go.ChangeAt Go.RowKit Go.Sort
def sameH (x y : Hdr) : Bool := (x.name.toList == y.name.toList) && (x.value.toList == y.value.toList)
def sameHs : List Hdr → List Hdr → Bool
  | [], [] => true
  | x :: l, y :: m => sameH x y && sameHs l m
  | _, _ => false
theorem guardHeader (op : BinOp) (a b : Operand) (x y : Array Value) (w : World) : (eqGuard op 84 a b (.agg x) (.agg y)).run Tryz.prog w = .ok () w := run_eqGuard_agg w op 84 a b x y (by kernel_rfl)
theorem neqHeader (x y : Hdr) (w : World) : (binOp .neq 84 (.agg #[.string x.name, .string x.value]) (.agg #[.string y.name, .string y.value])).run Tryz.prog w = .ok (.bool (!sameH x y)) w := by
  have u9 := Tryz.underlying9
  have a9 := Tryz.isAgg9
  have z9 := Tryz.sizeOf9
  have hS : Tryz.prog.underlying 84 = some (.struct (Tryz.prog.fieldsOf 84)) := by kernel_rfl
  have hp : Tryz.prog.stoodInHeld 84 = false := by kernel_rfl
  obtain ⟨n1, v1⟩ := x
  obtain ⟨n2, v2⟩ := y
  simp only [sameH]
  rw [run_neq_struct, show (10000 : Nat) = 9999 + 1 from rfl, run_equalIn_agg w 9999 84 _ _ hS hp]
  simp only [Program.fieldsOf, Tryz.underlying84]
  go_simp
  by_cases e1 : n1.toList = n2.toList <;> by_cases e3 : v1.toList = v2.toList <;> simp [e1, e3]
end Go.Proofs.YtojcjpdgjohldaaGreatDoor
/-
  What the model's SameHeaders and slices.Equal over head lines answer, and SameHeaders.
-/
namespace Go.Proofs.YtojcjpdgjohldaaGreatDoor
open Go.ChangeShapes Go.WideShapes Go.ChangeAt Go.RowKit Go.Sort
theorem sameHs_lens : ∀ (l m : List Hdr), l.length ≠ m.length → sameHs l m = false
  | [], [], h => absurd rfl h
  | [], _ :: _, _ => rfl
  | _ :: _, [], _ => rfl
  | x :: l, y :: m, h => by
    rw [sameHs, sameHs_lens l m (by simpa using h), Bool.and_false]
theorem sameHs_drop {l m : List Hdr} {k : Nat} {x y : Hdr} (hx : l[k]? = some x) (hy : m[k]? = some y) : sameHs (l.drop k) (m.drop k) = (sameH x y && sameHs (l.drop (k + 1)) (m.drop (k + 1))) := by
  rw [drop_hdr l k x hx, drop_hdr m k y hy, sameHs]
set_option maxRecDepth 100000 in
set_option maxHeartbeats 4000000 in
theorem specSameH_any (w : World) (a b : Option Addr) (ca cb : Nat) (l m : List Hdr) (hl : l.length ≤ 1048576) (h1 : HdsIn w a l) (h2 : HdsIn w b m) :
    Calls Tryz.prog 79 #[.slice a l.length ca, .slice b m.length cb] w fun e w' => e = .returned (.bool (sameHs l m)) ∧ Below w.heap.size w w' := by
  have H1 : Hid (HdsIn w a l) := h1
  have H2 : Hid (HdsIn w b m) := h2
  clear h1 h2
  by_cases hlen : l.length = m.length
  · have HM : Hid (m.length = l.length) := hlen.symm
    rw [← hlen]
    clear hlen
    generalize hn : l.length = n at *
    have HN : Hid (l.length = n) := hn
    clear hn
    go_enter Tryz.func79, Tryz.ntmps79
    go_wp2_with fail
    go_loopw [5] (fun i wr => ∃ k : Nat, k ≤ n ∧ i = .int .i64 k ∧ sameHs l m = sameHs (l.drop k) (m.drop k) ∧ Below w.heap.size w wr) (fun i _ => n - (intOf i).toNat)
    case atStart => exact ⟨0, Nat.zero_le _, rfl, rfl, Below.refl _ _⟩
    case round =>
      obtain ⟨k, hk, rfl, hs, hb⟩ := hrel
      have HS : Hid (sameHs l m = sameHs (l.drop k) (m.drop k)) := hs
      clear hs
      by_cases hlt : k < n
      · obtain ⟨x, hx⟩ : ∃ r, l[k]? = some r := ⟨l[k]'(by have := HN.out; omega), List.getElem?_eq_getElem _⟩
        obtain ⟨y, hy⟩ : ∃ r, m[k]? = some r := ⟨m[k]'(by have := HM.out; have := HN.out; omega), List.getElem?_eq_getElem _⟩
        rcases H1.out with h | ⟨b1, o1, rfl, at1⟩
        · subst h; simp at hx
        rcases H2.out with h | ⟨b2, o2, rfl, at2⟩
        · subst h; simp at hy
        obtain ⟨p1, p3⟩ := (at1.keep hb) k x hx
        obtain ⟨q1, q3⟩ := (at2.keep hb) k y hy
        have x1 := cell_regrown p1
        have x3 := cell_regrown p3
        have y1 := cell_regrown q1
        have y3 := cell_regrown q3
        have hne := neqHeader x y
        have hgd := guardHeader
        have HD : Hid (sameHs l m = (sameH x y && sameHs (l.drop (k + 1)) (m.drop (k + 1)))) := by show _ = _; rw [HS.out, sameHs_drop hx hy]
        have g0 : (0 : Int) ≤ k := by omega
        have g : (k : Int) < n := by omega
        clear hx hy p1 p3 q1 q3 at1 at2 HS
        generalize x.name = xn at *
        generalize x.value = xv at *
        generalize y.name = yn at *
        generalize y.value = yv at *
        cases hsame : sameH x y
        · rw [hsame] at hne
          have HE : Hid (sameHs l m = false) := by show _ = _; rw [HD.out, hsame, Bool.false_and]
          clear HD hsame
          simp only [Bool.not_false] at hne
          go_wp2_with fail
          refine wp_region_quiet_below (by kernel_rfl) (by kernel_rfl) ?_
          repeat (go_big_quiet_step (fail))
          refine wpQuiet_nil ?_
          intro w2 hw2
          have hbb : Below w.heap.size w w2 := by
            obtain ⟨⟨d, os⟩, rfl⟩ := hw2
            exact hb.trans ((below_regrown wr d os).mono hb.size)
          clear x1 x3 y1 y3 hne hgd hw2 hb
          go_wp2_with fail
          go_ret
          exact ⟨ret_bool HE.out.symm, hbb⟩
        · rw [hsame] at hne
          have HE : Hid (sameHs l m = sameHs (l.drop (k + 1)) (m.drop (k + 1))) := by show _ = _; rw [HD.out, hsame, Bool.true_and]
          clear HD hsame
          simp only [Bool.not_true] at hne
          go_wp2_with fail
          refine wp_region_quiet_below (by kernel_rfl) (by kernel_rfl) ?_
          repeat (go_big_quiet_step (fail))
          refine wpQuiet_nil ?_
          intro w2 hw2
          have hbb : Below w.heap.size w w2 := by
            obtain ⟨⟨d, os⟩, rfl⟩ := hw2
            exact hb.trans ((below_regrown wr d os).mono hb.size)
          clear x1 x3 y1 y3 hne hgd hw2 hb
          go_wp2_with fail
          go_roundw
          case rel => exact ⟨k + 1, by omega, by go_num, HE.out, hbb⟩
          case measure => simp [intOf]; omega
      · have HE : Hid (sameHs l m = true) := by
          show _ = _
          rw [HS.out, List.drop_of_length_le (by have := HN.out; omega), List.drop_of_length_le (by have := HM.out; have := HN.out; omega)]
          rfl
        clear HS
        go_wp2_with fail
        go_ret
        exact ⟨ret_bool HE.out.symm, hb⟩
  · have HE : Hid (sameHs l m = false) := sameHs_lens l m hlen
    have g : ¬ (l.length : Int) = (m.length : Int) := by omega
    have g2 : ((l.length : Int) != (m.length : Int)) = true := by simpa using g
    clear H1 H2
    generalize l.length = n at *
    generalize m.length = n2 at *
    go_enter Tryz.func79, Tryz.ntmps79
    go_wp2_with fail
    go_ret
    exact ⟨ret_bool HE.out.symm, Below.refl _ _⟩
set_option maxRecDepth 100000 in
set_option maxHeartbeats 4000000 in
theorem equalHeaders_any (w : World) (a b : Option Addr) (ca cb : Nat) (l m : List Hdr) (hl : l.length ≤ 1048576) (h1 : HdsIn w a l) (h2 : HdsIn w b m) :
    Calls Tryz.prog 129 #[.slice a l.length ca, .slice b m.length cb] w fun e w' => e = .returned (.bool (sameHs l m)) ∧ Below w.heap.size w w' := by
  have H1 : Hid (HdsIn w a l) := h1
  have H2 : Hid (HdsIn w b m) := h2
  clear h1 h2
  by_cases hlen : l.length = m.length
  · have HM : Hid (m.length = l.length) := hlen.symm
    rw [← hlen]
    clear hlen
    generalize hn : l.length = n at *
    have HN : Hid (l.length = n) := hn
    clear hn
    go_enter Tryz.func129, Tryz.ntmps129
    go_wp2_with fail
    go_loopw [13] (fun i wr => ∃ k : Nat, k ≤ n ∧ i = .int .i64 k ∧ sameHs l m = sameHs (l.drop k) (m.drop k) ∧ Below w.heap.size w wr) (fun i _ => n - (intOf i).toNat)
    case atStart => exact ⟨0, Nat.zero_le _, rfl, rfl, Below.refl _ _⟩
    case round =>
      obtain ⟨k, hk, rfl, hs, hb⟩ := hrel
      have HS : Hid (sameHs l m = sameHs (l.drop k) (m.drop k)) := hs
      clear hs
      by_cases hlt : k < n
      · obtain ⟨x, hx⟩ : ∃ r, l[k]? = some r := ⟨l[k]'(by have := HN.out; omega), List.getElem?_eq_getElem _⟩
        obtain ⟨y, hy⟩ : ∃ r, m[k]? = some r := ⟨m[k]'(by have := HM.out; have := HN.out; omega), List.getElem?_eq_getElem _⟩
        rcases H1.out with h | ⟨b1, o1, rfl, at1⟩
        · subst h; simp at hx
        rcases H2.out with h | ⟨b2, o2, rfl, at2⟩
        · subst h; simp at hy
        obtain ⟨p1, p3⟩ := (at1.keep hb) k x hx
        obtain ⟨q1, q3⟩ := (at2.keep hb) k y hy
        have x1 := cell_regrown p1
        have x3 := cell_regrown p3
        have y1 := cell_regrown q1
        have y3 := cell_regrown q3
        have hne := neqHeader x y
        have hgd := guardHeader
        have HD : Hid (sameHs l m = (sameH x y && sameHs (l.drop (k + 1)) (m.drop (k + 1)))) := by show _ = _; rw [HS.out, sameHs_drop hx hy]
        have g0 : (0 : Int) ≤ k := by omega
        have g : (k : Int) < n := by omega
        clear hx hy p1 p3 q1 q3 at1 at2 HS
        generalize x.name = xn at *
        generalize x.value = xv at *
        generalize y.name = yn at *
        generalize y.value = yv at *
        cases hsame : sameH x y
        · rw [hsame] at hne
          have HE : Hid (sameHs l m = false) := by show _ = _; rw [HD.out, hsame, Bool.false_and]
          clear HD hsame
          simp only [Bool.not_false] at hne
          go_wp2_with fail
          refine wp_region_quiet_below (by kernel_rfl) (by kernel_rfl) ?_
          repeat (go_big_quiet_step (fail))
          refine wpQuiet_nil ?_
          intro w2 hw2
          have hbb : Below w.heap.size w w2 := by
            obtain ⟨⟨d, os⟩, rfl⟩ := hw2
            exact hb.trans ((below_regrown wr d os).mono hb.size)
          clear x1 x3 y1 y3 hne hgd hw2 hb
          go_wp2_with fail
          go_ret
          exact ⟨ret_bool HE.out.symm, hbb⟩
        · rw [hsame] at hne
          have HE : Hid (sameHs l m = sameHs (l.drop (k + 1)) (m.drop (k + 1))) := by show _ = _; rw [HD.out, hsame, Bool.true_and]
          clear HD hsame
          simp only [Bool.not_true] at hne
          go_wp2_with fail
          refine wp_region_quiet_below (by kernel_rfl) (by kernel_rfl) ?_
          repeat (go_big_quiet_step (fail))
          refine wpQuiet_nil ?_
          intro w2 hw2
          have hbb : Below w.heap.size w w2 := by
            obtain ⟨⟨d, os⟩, rfl⟩ := hw2
            exact hb.trans ((below_regrown wr d os).mono hb.size)
          clear x1 x3 y1 y3 hne hgd hw2 hb
          go_wp2_with fail
          go_roundw
          case rel => exact ⟨k + 1, by omega, by go_num, HE.out, hbb⟩
          case measure => simp [intOf]; omega
      · have HE : Hid (sameHs l m = true) := by
          show _ = _
          rw [HS.out, List.drop_of_length_le (by have := HN.out; omega), List.drop_of_length_le (by have := HM.out; have := HN.out; omega)]
          rfl
        clear HS
        go_wp2_with fail
        go_ret
        exact ⟨ret_bool HE.out.symm, hb⟩
  · have HE : Hid (sameHs l m = false) := sameHs_lens l m hlen
    have g : ¬ (l.length : Int) = (m.length : Int) := by omega
    have g2 : ((l.length : Int) != (m.length : Int)) = true := by simpa using g
    clear H1 H2
    generalize l.length = n at *
    generalize m.length = n2 at *
    go_enter Tryz.func129, Tryz.ntmps129
    go_wp2_with fail
    go_ret
    exact ⟨ret_bool HE.out.symm, Below.refl _ _⟩
set_option maxHeartbeats 400000 in
theorem implSameH_any (w : World) (a b : Option Addr) (ca cb : Nat) (l m : List Hdr) (hl : l.length ≤ 1048576) (h1 : HdsIn w a l) (h2 : HdsIn w b m) :
    Calls Tryz.prog 76 #[.slice a l.length ca, .slice b m.length cb] w fun e w' => e = .returned (.bool (sameHs l m)) ∧ Below w.heap.size w w' := by
  have HC : Hid (Calls Tryz.prog 129 #[.slice a l.length ca, .slice b m.length cb] w fun e w' => e = .returned (.bool (sameHs l m)) ∧ Below w.heap.size w w') := equalHeaders_any w a b ca cb l m hl h1 h2
  clear h1 h2 hl
  go_enter Tryz.func76, Tryz.ntmps76
  go_wp2_with fail
  refine HC.out.mono ?_
  rintro e w1 ⟨rfl, hb⟩
  go_wp2_with fail
  go_ret
  exact ⟨rfl, hb⟩
end Go.Proofs.YtojcjpdgjohldaaGreatDoor
/-
  Rows of bytes: the laws' own helpers over them.
-/
namespace Go.Proofs.YtojcjpdgjohldaaGreatDoor
open Go.ChangeShapes Go.WideShapes Go.ChangeAt Go.RowKit Go.Sort
def BAt (w : World) (b off : Nat) (l : List UInt8) : Prop := ∀ (i : Nat) c, l[i]? = some c → w.cell? ⟨b, off + i, none⟩ = some (.int .u8 (c.toNat : Int))
theorem BAt.keep {w w' : World} {b off : Nat} {l : List UInt8} (h : BAt w b off l) (hb : Below w.heap.size w w') : BAt w' b off l := by
  intro i c hc
  have := h i c hc
  rw [hb.cell (block_lt_of_cell this)]; exact this
def BIn (w : World) (a : Option Addr) (l : List UInt8) : Prop := l = [] ∨ ∃ b off, a = some ⟨b, off, none⟩ ∧ BAt w b off l
theorem BIn.keep {w w' : World} {a : Option Addr} {l : List UInt8} (h : BIn w a l) (hb : Below w.heap.size w w') : BIn w' a l := by
  rcases h with h | ⟨b, off, e, h⟩
  · exact .inl h
  · exact .inr ⟨b, off, e, h.keep hb⟩
structure BMine (W : World) (B : Nat) (l : List UInt8) : Prop where
  at0 : BAt W B 0 l
  free : ∀ o, o < l.length → W.frozen? ⟨B, o, none⟩ = false
  lt : B < W.heap.size
theorem BMine.keep {W W' : World} {B : Nat} {l : List UInt8} (h : BMine W B l) (hb : Below W.heap.size W W') : BMine W' B l :=
  ⟨h.at0.keep hb, fun o ho => by rw [hb.frozen (p := ⟨B, o, none⟩) h.lt]; exact h.free o ho, Nat.lt_of_lt_of_le h.lt hb.size⟩
theorem BMine.in {W : World} {B : Nat} {l : List UInt8} (h : BMine W B l) : BIn W (some ⟨B, 0, none⟩) l := .inr ⟨B, 0, rfl, h.at0⟩
set_option maxHeartbeats 400000 in
theorem szByteS_any (a : Option Addr) (n cap : Nat) (left : Int) (w : World) (h0 : 0 ≤ left) (h1 : left ≤ 1048576) (hn : n ≤ maxLen) :
    Calls Tryz.prog 106 #[.slice a n cap, .int .i64 left] w fun e w' => e = .returned (.int .i64 (if left - (n : Int) < 0 then -1 else left - (n : Int))) ∧ w' = w := by
  unfold maxLen at hn
  by_cases c : left - (n : Int) < 0
  · rw [if_pos c]
    go_enter Tryz.func106, Tryz.ntmps106
    go_wp2
    go_ret
    exact ⟨rfl, rfl⟩
  · rw [if_neg c]
    go_enter Tryz.func106, Tryz.ntmps106
    go_wp2
    go_ret
    exact ⟨rfl, rfl⟩
theorem infoByteR : (Tryz.prog.info? 5).map (fun i => (i.zero, i.size, i.bytes)) = some (some (.int .u8 0), 1, 1) := by kernel_rfl
theorem BAt.put {w : World} {G : Nat} {l : List UInt8} {k n : Nat} {c : UInt8} (h : BAt w G 0 (l.take k)) (hr : l[k]? = some c) (hm : HRoom w G n) (hk : k < n) : BAt (w.setCell ⟨G, k, none⟩ (.int .u8 (c.toNat : Int))) G 0 (l.take (k + 1)) := by
  intro i q hq
  have hi : i < k + 1 := by
    have := (List.getElem?_eq_some_iff.1 hq).1
    simp at this; omega
  rw [List.getElem?_take_of_lt hi] at hq
  simp only [Nat.zero_add]
  by_cases e : i = k
  · subst e
    rw [hr] at hq
    obtain rfl := Option.some.inj hq
    obtain ⟨⟨u0, g0⟩, _⟩ := hm i (by omega)
    exact World.cell?_setCell_same _ _ _ g0
  · have hq2 : (l.take k)[i]? = some q := by rw [List.getElem?_take_of_lt (by omega)]; exact hq
    have a1 := h i q hq2
    simp only [Nat.zero_add] at a1
    rw [World.cell?_setCell_other _ _ _ _ (hoff_ne (by omega))]; exact a1
set_option maxHeartbeats 2000000 in
theorem toByteS_any (w : World) (a : Option Addr) (cap : Nat) (l : List UInt8) (hl : l.length ≤ 1048576) (hi : BIn w a l) :
    Calls Tryz.prog 43 #[.slice a l.length cap] w fun e w' => e = .returned (.slice (some ⟨w.heap.size, 0, none⟩) l.length l.length) ∧ BMine w' w.heap.size l ∧ Below w.heap.size w w' := by
  have HI : Hid (BIn w a l) := hi
  obtain ⟨i0, hi0, hz0, hz1, hz2⟩ := info_parts infoByteR
  clear hi
  generalize hn : l.length = n at *
  have HN : Hid (l.length = n) := hn
  clear hn
  go_enter Tryz.func43, Tryz.ntmps43
  go_wp2_with (at_make; refine wpList_make_full w rfl _ _ 22 rfl w.heap.size 5 i0 _ 1 Tryz.underlying22 hi0 hz0 hz1 _ _ _ _ n rfl rfl rfl rfl (by rw [hz2]; omega) (by unfold maxLen; omega) (Nat.le_refl _) ?_; intro w1 hown hgrow)
  have HR1 : Hid (HRoom w1 w.heap.size n ∧ (w.heap.size < w1.heap.size ∧ ∀ o, w1.frozen? ⟨w.heap.size, o, none⟩ = false) ∧ Below w.heap.size w w1) := by
    refine ⟨fun j hj => ⟨?_, hown.frozenAt j⟩, ⟨?lt, fun o => hown.frozenAt o⟩, (Below.refl _ _).grown hgrow (Nat.le_refl _) (fun q hq => by cases hq)⟩
    case lt =>
      obtain ⟨_, h | ⟨g, c, cur, e, _, hh, _⟩⟩ := hown
      · cases h.1
      · simp only [Value.slice.injEq, Option.some.injEq] at e
        have e1 := congrArg Addr.block e.1
        simp only at e1
        rw [e1]
        exact (Array.getElem?_eq_some_iff.1 hh).1
    have h1 := hown.cellAt j (by omega)
    have h2 : j < (madeCells (Value.int .u8 0).cells (n * 1)).toList.length := by have := hown.1; omega
    exact ⟨_, h1.trans (List.getElem?_eq_getElem h2)⟩
  clear hown hgrow
  go_loopw [4] (fun i wr => ∃ k : Nat, k ≤ n ∧ i = .int .i64 k ∧ BAt wr w.heap.size 0 (l.take k) ∧ HRoom wr w.heap.size n ∧ (w.heap.size < wr.heap.size ∧ ∀ o, wr.frozen? ⟨w.heap.size, o, none⟩ = false) ∧ Below w.heap.size w wr) (fun i _ => n - (intOf i).toNat)
  case atStart => exact ⟨0, Nat.zero_le _, rfl, fun i r hr => by simp at hr, HR1.out.1, HR1.out.2.1, HR1.out.2.2⟩
  case round =>
    obtain ⟨k, hk, rfl, hat, hroom, hfr, hb⟩ := hrel
    have HFR : Hid (w.heap.size < wr.heap.size ∧ ∀ o, wr.frozen? ⟨w.heap.size, o, none⟩ = false) := hfr
    clear hfr HR1
    by_cases hlt : k < n
    · obtain ⟨c, hr⟩ : ∃ r, l[k]? = some r := ⟨l[k]'(by have := HN.out; omega), List.getElem?_eq_getElem _⟩
      rcases HI.out with h | ⟨b, off, rfl, hsrc⟩
      · subst h; simp at hr
      have p1 := hsrc k c hr
      have hblt : b < w.heap.size := block_lt_of_cell p1
      have p2 : wr.cell? ⟨b, off + k, none⟩ = some (.int .u8 (c.toNat : Int)) := by rw [hb.cell (p := ⟨b, off + k, none⟩) hblt]; exact p1
      obtain ⟨⟨u0, g0⟩, f0⟩ := hroom k (by omega)
      have HP : Hid (BAt (wr.setCell ⟨w.heap.size, k, none⟩ (.int .u8 (c.toNat : Int))) w.heap.size 0 (l.take (k + 1)) ∧ HRoom (wr.setCell ⟨w.heap.size, k, none⟩ (.int .u8 (c.toNat : Int))) w.heap.size n) := ⟨hat.put hr hroom hlt, hroom.set _ _⟩
      have g : (k : Int) < n := by omega
      have HB : Hid (Below w.heap.size w wr) := hb
      clear hat hroom hr hsrc p1 HI hb
      generalize (c.toNat : Int) = cv at *
      go_wp2_with fail
      go_roundw
      case rel => exact ⟨k + 1, by omega, by go_num, HP.out.1, HP.out.2, ⟨by simpa using HFR.out.1, fun o => by rw [World.frozen?_setCell]; exact HFR.out.2 o⟩, HB.out.setCell (Nat.le_refl _) _⟩
      case measure => simp [intOf]; omega
    · have HF : Hid (BMine wr w.heap.size l) := by
        have e : l.take k = l := List.take_of_length_le (by have := HN.out; omega)
        rw [e] at hat
        exact ⟨hat, fun o _ => HFR.out.2 o, HFR.out.1⟩
      clear hat hroom
      go_wp2_with fail
      go_ret
      exact ⟨rfl, HF.out, hb⟩
set_option maxHeartbeats 2000000 in
theorem eqByteS_same (w : World) (a1 a2 : Option Addr) (c1 c2 : Nat) (l : List UInt8) (hl : l.length ≤ 1048576) (h1 : BIn w a1 l) (h2 : BIn w a2 l) :
    Calls Tryz.prog 45 #[.slice a1 l.length c1, .slice a2 l.length c2] w fun e w' => e = .returned (.bool true) ∧ Below w.heap.size w w' := by
  have H1 : Hid (BIn w a1 l) := h1
  have H2 : Hid (BIn w a2 l) := h2
  clear h1 h2
  generalize hn : l.length = n at *
  have HN : Hid (l.length = n) := hn
  clear hn
  go_enter Tryz.func45, Tryz.ntmps45
  go_wp2_with fail
  go_loopw [5] (fun i wr => ∃ k : Nat, k ≤ n ∧ i = .int .i64 k ∧ Below w.heap.size w wr) (fun i _ => n - (intOf i).toNat)
  case atStart => exact ⟨0, Nat.zero_le _, rfl, Below.refl _ _⟩
  case round =>
    obtain ⟨k, hk, rfl, hb⟩ := hrel
    by_cases hlt : k < n
    · obtain ⟨r, hr⟩ : ∃ r, l[k]? = some r := ⟨l[k]'(by have := HN.out; omega), List.getElem?_eq_getElem _⟩
      rcases H1.out with h | ⟨b1, o1, rfl, hs1⟩
      · subst h; simp at hr
      rcases H2.out with h | ⟨b2, o2, rfl, hs2⟩
      · subst h; simp at hr
      have p1 := (hs1.keep hb) k r hr
      have p2 := (hs2.keep hb) k r hr
      have x1 := cell_regrown p1
      have x2 := cell_regrown p2
      have g0 : (0 : Int) ≤ k := by omega
      have g : (k : Int) < n := by omega
      clear hr p1 p2 hs1 hs2 H1 H2
      generalize (r.toNat : Int) = cv at *
      go_wp2_with fail
      refine wp_region_quiet_below (by kernel_rfl) (by kernel_rfl) ?_
      repeat (go_big_quiet_step (first | fail))
      refine wpQuiet_nil ?_
      intro w2 hw2
      have hbb : Below w.heap.size w w2 := by
        obtain ⟨⟨d, os⟩, rfl⟩ := hw2
        exact hb.trans ((below_regrown wr d os).mono hb.size)
      clear x1 x2 hw2 hb
      go_wp2_with fail
      go_roundw
      case rel => exact ⟨k + 1, by omega, by go_num, hbb⟩
      case measure => simp [intOf]; omega
    · go_wp2_with fail
      go_ret
      exact ⟨rfl, hb⟩
end Go.Proofs.YtojcjpdgjohldaaGreatDoor
/-
  What SameResponses and its model answer.
-/
namespace Go.Proofs.YtojcjpdgjohldaaGreatDoor
open Go.ChangeShapes Go.WideShapes Go.ChangeAt Go.RowKit
theorem bytes_text {w : World} {a : Option Addr} {l : List UInt8} (c : Nat) (h : BIn w a l) : (convert 22 9 (.slice a l.length c)).run Tryz.prog w = .ok (.string ⟨l.toArray⟩) w := by
  cases a with
  | none =>
    rcases h with h | ⟨b, off, e, _⟩
    · subst h
      exact run_convert_bytes_nil w 22 5 Tryz.underlying22 Tryz.underlying5 0 c 9 Tryz.underlying9
    · cases e
  | some x =>
    refine run_convert_bytes_back w 22 9 5 x c l Tryz.underlying22 Tryz.underlying5 Tryz.underlying9 ?_
    intro j hj
    rcases h with h | ⟨b, off, e, hat⟩
    · subst h; simp at hj
    · obtain rfl := Option.some.inj e
      have hadd : (⟨b, off, none⟩ : Addr).add j = ⟨b, off + j, none⟩ := by unfold Addr.add; split <;> simp_all
      rw [hadd]
      exact hat j l[j] (List.getElem?_eq_getElem hj)
def sameP (s : Int) (l : List Hdr) (bl : List UInt8) (s' : Int) (l' : List Hdr) (bl' : List UInt8) : Bool := (s == s') && sameHs l l' && ((⟨bl.toArray⟩ : ByteArray).toList == (⟨bl'.toArray⟩ : ByteArray).toList)
set_option maxHeartbeats 400000 in
theorem bytesEqual_any (w : World) (a b : Option Addr) (ca cb : Nat) (l m : List UInt8) (h1 : BIn w a l) (h2 : BIn w b m) :
    Calls Tryz.prog 78 #[.slice a l.length ca, .slice b m.length cb] w fun e w' => e = .returned (.bool ((⟨l.toArray⟩ : ByteArray).toList == (⟨m.toArray⟩ : ByteArray).toList)) ∧ w' = w := by
  have e1 := bytes_text ca h1
  have e2 := bytes_text cb h2
  generalize (⟨l.toArray⟩ : ByteArray) = x at *
  generalize (⟨m.toArray⟩ : ByteArray) = y at *
  generalize l.length = n at *
  generalize m.length = k at *
  clear h1 h2
  go_enter Tryz.func78, Tryz.ntmps78
  go_wp2_with fail
  go_ret
  exact ⟨rfl, rfl⟩
set_option maxHeartbeats 4000000 in
theorem specSameP_any (w : World) (s : Int) (a : Option Addr) (ca : Nat) (l : List Hdr) (c : Option Addr) (cc : Nat) (bl : List UInt8) (s' : Int) (b : Option Addr) (cb : Nat) (l' : List Hdr) (d : Option Addr) (cd : Nat) (bl' : List UInt8) (hl : l.length ≤ 1048576) (h1 : HdsIn w a l) (h2 : HdsIn w b l') (k1 : BIn w c bl) (k2 : BIn w d bl') :
    Calls Tryz.prog 25 #[.agg #[.int .i64 s, .slice a l.length ca, .slice c bl.length cc], .agg #[.int .i64 s', .slice b l'.length cb, .slice d bl'.length cd]] w fun e w' => e = .returned (.bool (sameP s l bl s' l' bl')) ∧ Below w.heap.size w w' := by
  have HE : Hid (sameP s l bl s' l' bl' = ((s == s') && sameHs l l' && ((⟨bl.toArray⟩ : ByteArray).toList == (⟨bl'.toArray⟩ : ByteArray).toList))) := rfl
  obtain ⟨V, hV⟩ : ∃ V, V = ((w.alloc (.cells #[.int .i64 s, .slice a l.length ca, .slice c bl.length cc] 32)).alloc (.cells #[.int .i64 s', .slice b l'.length cb, .slice d bl'.length cd] 32)) := ⟨_, rfl⟩
  have HV : Hid (V = ((w.alloc (.cells #[.int .i64 s, .slice a l.length ca, .slice c bl.length cc] 32)).alloc (.cells #[.int .i64 s', .slice b l'.length cb, .slice d bl'.length cd] 32))) := hV
  have bV : Below w.heap.size w V := by rw [hV]; exact ((Below.refl _ _).alloc (Nat.le_refl _) _).alloc (by simp) _
  have c1 : V.cell? ⟨w.heap.size, 2, none⟩ = some (.slice c bl.length cc) := by rw [hV, World.cell?_alloc_past _ _ _ (by simp), World.cell?_alloc_mark]; rfl
  have c2 : V.cell? ⟨w.heap.size + 1, 2, none⟩ = some (.slice d bl'.length cd) := by
    rw [hV]
    have : (w.alloc (.cells #[.int .i64 s, .slice a l.length ca, .slice c bl.length cc] 32)).heap.size = w.heap.size + 1 := by simp
    rw [← this, World.cell?_alloc_mark]; rfl
  have hs : V.heap.size = w.heap.size + 2 := by rw [hV]; simp
  have C := specSameH_any V a b ca cb l l' hl (h1.keep bV) (h2.keep bV)
  have HK : Hid (∀ X, Below w.heap.size w X → BIn X c bl ∧ BIn X d bl') := fun X hb => ⟨k1.keep hb, k2.keep hb⟩
  have HB : Hid (Below w.heap.size w V) := bV
  have HC : Hid (∀ X, Below V.heap.size V X → X.cell? ⟨w.heap.size, 2, none⟩ = some (.slice c bl.length cc) ∧ X.cell? ⟨w.heap.size + 1, 2, none⟩ = some (.slice d bl'.length cd)) := fun X hb => ⟨by rw [hb.cell (p := ⟨w.heap.size, 2, none⟩) (by simp only; omega)]; exact c1, by rw [hb.cell (p := ⟨w.heap.size + 1, 2, none⟩) (by simp only; omega)]; exact c2⟩
  clear bV h1 h2 hV k1 k2 hs c1 c2
  generalize sameHs l l' = sb at *
  generalize sameP s l bl s' l' bl' = q at *
  generalize l.length = n at *
  generalize l'.length = n' at *
  cases c1 : (s == s')
  · have HV2 : Hid (q = false) := by show _ = _; rw [HE.out, c1]; rfl
    rw [HV.out] at HB
    clear HE C HK HC
    generalize bl.length = k at *
    generalize bl'.length = k' at *
    go_enter Tryz.func25, Tryz.ntmps25
    go_wp2_with fail
    go_ret
    exact ⟨ret_bool HV2.out.symm, HB.out⟩
  go_enter Tryz.func25, Tryz.ntmps25
  go_wp2_with fail
  rw [← HV.out]
  refine C.mono ?_
  rintro e w1 ⟨rfl, hb1⟩
  have HB1 : Hid (Below w.heap.size w w1) := HB.out.trans (hb1.mono HB.out.size)
  obtain ⟨p1, p2⟩ := HC.out w1 hb1
  obtain ⟨i1, i2⟩ := HK.out w1 HB1.out
  clear hb1 C HB HV HC HK
  cases sb
  · have HV2 : Hid (q = false) := by show _ = _; rw [HE.out, c1]; rfl
    clear HE i1 i2
    go_wp2_with fail
    go_ret
    exact ⟨ret_bool HV2.out.symm, HB1.out⟩
  have HV2 : Hid (q = ((⟨bl.toArray⟩ : ByteArray).toList == (⟨bl'.toArray⟩ : ByteArray).toList)) := by show _ = _; rw [HE.out, c1]; rfl
  clear HE
  have e1 := bytes_text cc i1
  have e2 := bytes_text cd i2
  clear i1 i2
  generalize (⟨bl.toArray⟩ : ByteArray) = x at *
  generalize (⟨bl'.toArray⟩ : ByteArray) = y at *
  generalize bl.length = k at *
  generalize bl'.length = k' at *
  go_wp2_with fail
  go_ret
  exact ⟨ret_bool HV2.out.symm, HB1.out⟩
set_option maxHeartbeats 4000000 in
theorem implSameP_any (w : World) (s : Int) (a : Option Addr) (ca : Nat) (l : List Hdr) (c : Option Addr) (cc : Nat) (bl : List UInt8) (s' : Int) (b : Option Addr) (cb : Nat) (l' : List Hdr) (d : Option Addr) (cd : Nat) (bl' : List UInt8) (hl : l.length ≤ 1048576) (h1 : HdsIn w a l) (h2 : HdsIn w b l') (k1 : BIn w c bl) (k2 : BIn w d bl') :
    Calls Tryz.prog 24 #[.agg #[.int .i64 s, .slice a l.length ca, .slice c bl.length cc], .agg #[.int .i64 s', .slice b l'.length cb, .slice d bl'.length cd]] w fun e w' => e = .returned (.bool (sameP s l bl s' l' bl')) ∧ Below w.heap.size w w' := by
  have HE : Hid (sameP s l bl s' l' bl' = ((s == s') && sameHs l l' && ((⟨bl.toArray⟩ : ByteArray).toList == (⟨bl'.toArray⟩ : ByteArray).toList))) := rfl
  obtain ⟨V, hV⟩ : ∃ V, V = ((w.alloc (.cells #[.int .i64 s, .slice a l.length ca, .slice c bl.length cc] 32)).alloc (.cells #[.int .i64 s', .slice b l'.length cb, .slice d bl'.length cd] 32)) := ⟨_, rfl⟩
  have HV : Hid (V = ((w.alloc (.cells #[.int .i64 s, .slice a l.length ca, .slice c bl.length cc] 32)).alloc (.cells #[.int .i64 s', .slice b l'.length cb, .slice d bl'.length cd] 32))) := hV
  have bV : Below w.heap.size w V := by rw [hV]; exact ((Below.refl _ _).alloc (Nat.le_refl _) _).alloc (by simp) _
  have c1 : V.cell? ⟨w.heap.size, 2, none⟩ = some (.slice c bl.length cc) := by rw [hV, World.cell?_alloc_past _ _ _ (by simp), World.cell?_alloc_mark]; rfl
  have c2 : V.cell? ⟨w.heap.size + 1, 2, none⟩ = some (.slice d bl'.length cd) := by
    rw [hV]
    have : (w.alloc (.cells #[.int .i64 s, .slice a l.length ca, .slice c bl.length cc] 32)).heap.size = w.heap.size + 1 := by simp
    rw [← this, World.cell?_alloc_mark]; rfl
  have hs : V.heap.size = w.heap.size + 2 := by rw [hV]; simp
  have C := implSameH_any V a b ca cb l l' hl (h1.keep bV) (h2.keep bV)
  have HK : Hid (∀ X, Below w.heap.size w X → BIn X c bl ∧ BIn X d bl') := fun X hb => ⟨k1.keep hb, k2.keep hb⟩
  have HB : Hid (Below w.heap.size w V) := bV
  have HC : Hid (∀ X, Below V.heap.size V X → X.cell? ⟨w.heap.size, 2, none⟩ = some (.slice c bl.length cc) ∧ X.cell? ⟨w.heap.size + 1, 2, none⟩ = some (.slice d bl'.length cd)) := fun X hb => ⟨by rw [hb.cell (p := ⟨w.heap.size, 2, none⟩) (by simp only; omega)]; exact c1, by rw [hb.cell (p := ⟨w.heap.size + 1, 2, none⟩) (by simp only; omega)]; exact c2⟩
  clear bV h1 h2 hV k1 k2 hs c1 c2
  generalize sameHs l l' = sb at *
  generalize sameP s l bl s' l' bl' = q at *
  generalize l.length = n at *
  generalize l'.length = n' at *
  cases c1 : (s == s')
  · have HV2 : Hid (q = false) := by show _ = _; rw [HE.out, c1]; rfl
    rw [HV.out] at HB
    clear HE C HK HC
    generalize bl.length = k at *
    generalize bl'.length = k' at *
    go_enter Tryz.func24, Tryz.ntmps24
    go_wp2_with fail
    go_ret
    exact ⟨ret_bool HV2.out.symm, HB.out⟩
  go_enter Tryz.func24, Tryz.ntmps24
  go_wp2_with fail
  rw [← HV.out]
  refine C.mono ?_
  rintro e w1 ⟨rfl, hb1⟩
  have HB1 : Hid (Below w.heap.size w w1) := HB.out.trans (hb1.mono HB.out.size)
  obtain ⟨p1, p2⟩ := HC.out w1 hb1
  obtain ⟨i1, i2⟩ := HK.out w1 HB1.out
  clear hb1 C HB HV HC HK
  cases sb
  · have HV2 : Hid (q = false) := by show _ = _; rw [HE.out, c1]; rfl
    clear HE i1 i2
    go_wp2_with fail
    go_ret
    exact ⟨ret_bool HV2.out.symm, HB1.out⟩
  have HV2 : Hid (q = ((⟨bl.toArray⟩ : ByteArray).toList == (⟨bl'.toArray⟩ : ByteArray).toList)) := by show _ = _; rw [HE.out, c1]; rfl
  clear HE
  have C2 := bytesEqual_any w1 c d cc cd bl bl' i1 i2
  clear i1 i2
  generalize (⟨bl.toArray⟩ : ByteArray) = x at *
  generalize (⟨bl'.toArray⟩ : ByteArray) = y at *
  generalize bl.length = k at *
  generalize bl'.length = k' at *
  go_wp2_with fail
  refine C2.mono ?_
  rintro e w2 ⟨rfl, hw⟩
  obtain rfl := hw.symm
  clear C2 hw
  go_wp2_with fail
  go_ret
  exact ⟨ret_bool HV2.out.symm, HB1.out⟩
end Go.Proofs.YtojcjpdgjohldaaGreatDoor
/-
  Results that hold bytes: owned, compared, marked, held.
-/
namespace Go.Proofs.YtojcjpdgjohldaaGreatDoor
open Go.ChangeShapes Go.WideShapes Go.ChangeAt Go.RowKit
structure Two (W : World) (B : Nat) (v0 v1 : Value) : Prop where
  c0 : W.cell? ⟨B, 0, none⟩ = some v0
  c1 : W.cell? ⟨B, 1, none⟩ = some v1
  fr : ∀ o, W.frozen? ⟨B, o, none⟩ = false
  lt : B < W.heap.size
theorem Two.keep {W W' : World} {B : Nat} {v0 v1 : Value} (h : Two W B v0 v1) (hb : Below W.heap.size W W') : Two W' B v0 v1 :=
  ⟨by rw [hb.cell (p := ⟨B, 0, none⟩) h.lt]; exact h.c0, by rw [hb.cell (p := ⟨B, 1, none⟩) h.lt]; exact h.c1, fun o => by rw [hb.frozen (p := ⟨B, o, none⟩) h.lt]; exact h.fr o, Nat.lt_of_lt_of_le h.lt hb.size⟩
theorem Two.new (W : World) (v0 v1 : Value) (t : TypeId) : Two (W.alloc (.cells #[v0, v1] t)) W.heap.size v0 v1 :=
  ⟨by rw [World.cell?_alloc_mark]; rfl, by rw [World.cell?_alloc_mark]; rfl, fun o => by have e := heap_alloc_new W (.cells #[v0, v1] t); unfold World.frozen?; rw [e]; simp, by simp⟩
/-- v holds the bytes l in a row of its own, from block base on; or it is nil and there are none. -/
def BOwn (w : World) (base : Nat) (v : Value) (l : List UInt8) : Prop := (v = .slice none 0 0 ∧ l = []) ∨ ∃ g k, v = .slice (some ⟨g, 0, none⟩) l.length k ∧ base ≤ g ∧ BMine w g l
theorem BOwn.keep {w w' : World} {base : Nat} {v : Value} {l : List UInt8} (h : BOwn w base v l) (hb : Below w.heap.size w w') : BOwn w' base v l := by
  rcases h with h | ⟨g, k, e, hg, hm⟩
  · exact .inl h
  · exact .inr ⟨g, k, e, hg, hm.keep hb⟩
theorem BOwn.lower {w : World} {b0 base : Nat} {v : Value} {l : List UInt8} (h : BOwn w base v l) (hb : b0 ≤ base) : BOwn w b0 v l := by
  rcases h with h | ⟨g, k, e, hg, hm⟩
  · exact .inl h
  · exact .inr ⟨g, k, e, Nat.le_trans hb hg, hm⟩
theorem BOwn.shape {w : World} {base : Nat} {v : Value} {l : List UInt8} (h : BOwn w base v l) : ∃ a k, v = .slice a l.length k ∧ BIn w a l := by
  rcases h with ⟨rfl, rfl⟩ | ⟨g, k, rfl, hg, hm⟩
  · exact ⟨none, 0, rfl, .inl rfl⟩
  · exact ⟨_, _, rfl, hm.in⟩
theorem BOwn.block {w : World} {base : Nat} {v : Value} {l : List UInt8} (h : BOwn w base v l) : ∀ b, v.ownBlock = some b → base ≤ b ∧ b < w.heap.size := by
  rcases h with ⟨rfl, _⟩ | ⟨g, k, rfl, hg, hm⟩
  · intro b hb; cases hb
  · intro b hb; simp only [Value.ownBlock, Option.some.injEq] at hb; subst hb; exact ⟨hg, hm.lt⟩
/-- What a call hands back: a code, and bytes of its own. -/
def BGot (c : Int) (l : List UInt8) (base : Nat) (e : Ending) (w : World) : Prop := ∃ a n k, e = .returned (.agg #[.int .i64 c, .slice a n k]) ∧ BOwn w base (.slice a n k) l
theorem BGot.nil (c : Int) (base : Nat) (w : World) : BGot c [] base (.returned (.agg #[.int .i64 c, .slice none 0 0])) w := ⟨none, 0, 0, rfl, .inl ⟨rfl, rfl⟩⟩
/-- A text turned into bytes. -/
theorem bytes_of_text (w : World) (s : ByteArray) : ∃ C cap, (convert 9 22 (.string s)).run Tryz.prog w = .ok (.slice (some ⟨w.heap.size, 0, none⟩) s.size cap) (w.drew.alloc (.cells C 5 (C.size, C.size + 1))) ∧ BMine (w.drew.alloc (.cells C 5 (C.size, C.size + 1))) w.heap.size s.data.toList := by
  have h1 := run_bytes_of_string (P := Tryz.prog) w 9 22 5 s Tryz.underlying9 Tryz.underlying22 Tryz.underlying5
  have h2 := fun cap => BRow.made w s cap _ rfl
  refine ⟨_, _, h1, ?_⟩
  have h3 := h2 (grownCap w s.size 0 5)
  refine ⟨fun i c hc => ?_, fun o ho => ?_, ?_⟩
  · obtain ⟨hi, rfl⟩ := List.getElem?_eq_some_iff.1 hc
    rw [Nat.zero_add]
    exact h3.cell i hi
  · exact h3.free o ho
  · show w.heap.size < (w.drew.heap.push _).size
    rw [Array.size_push]; exact Nat.lt_succ_self _
end Go.Proofs.YtojcjpdgjohldaaGreatDoor
/-
  The laws' copy of head lines: what it holds may be written.
-/
namespace Go.Proofs.YtojcjpdgjohldaaGreatDoor
open Go.ChangeShapes Go.WideShapes Go.ChangeAt Go.RowKit Go.Sort
set_option maxHeartbeats 2000000 in
theorem toHeaderS_free (w : World) (a : Option Addr) (cap : Nat) (l : List Hdr) (hl : l.length ≤ 1048576) (hi : l = [] ∨ ∃ b off, a = some ⟨b, off, none⟩ ∧ HeadsAt w b off l) :
    Calls Tryz.prog 100 #[.slice a l.length cap] w fun e w' => e = .returned (.slice (some ⟨w.heap.size, 0, none⟩) l.length l.length) ∧ HeadsAt w' w.heap.size 0 l ∧ w.heap.size < w'.heap.size ∧ (∀ o, w'.frozen? ⟨w.heap.size, o, none⟩ = false) ∧ Below w.heap.size w w' := by
  have HI : Hid (l = [] ∨ ∃ b off, a = some ⟨b, off, none⟩ ∧ HeadsAt w b off l) := hi
  obtain ⟨i0, hi0, hz0, hz1, hz2⟩ := info_parts infoHeader
  clear hi
  generalize hn : l.length = n at *
  have HN : Hid (l.length = n) := hn
  clear hn
  go_enter Tryz.func100, Tryz.ntmps100
  go_wp2_with (at_make; refine wpList_make_full w rfl _ _ 24 rfl w.heap.size 84 i0 _ 2 Tryz.underlying24 hi0 hz0 hz1 _ _ _ _ n rfl rfl rfl rfl (by rw [hz2]; omega) (by unfold maxLen; omega) (Nat.le_refl _) ?_; intro w1 hown hgrow)
  have HR1 : Hid (HRoom w1 w.heap.size (n * 2) ∧ (w.heap.size < w1.heap.size ∧ ∀ o, w1.frozen? ⟨w.heap.size, o, none⟩ = false) ∧ Below w.heap.size w w1) := by
    refine ⟨fun j hj => ⟨?_, hown.frozenAt j⟩, ⟨?lt, fun o => hown.frozenAt o⟩, (Below.refl _ _).grown hgrow (Nat.le_refl _) (fun q hq => by cases hq)⟩
    case lt =>
      obtain ⟨_, h | ⟨g, c, cur, e, _, hh, _⟩⟩ := hown
      · cases h.1
      · simp only [Value.slice.injEq, Option.some.injEq] at e
        have e1 := congrArg Addr.block e.1
        simp only at e1
        rw [e1]
        exact (Array.getElem?_eq_some_iff.1 hh).1
    have h1 := hown.cellAt j hj
    have h2 : j < (madeCells (Value.agg #[.string ⟨#[]⟩, .string ⟨#[]⟩]).cells (n * 2)).toList.length := by have := hown.1; omega
    exact ⟨_, h1.trans (List.getElem?_eq_getElem h2)⟩
  clear hown hgrow
  go_loopw [4] (fun i wr => ∃ k : Nat, k ≤ n ∧ i = .int .i64 k ∧ HeadsAt wr w.heap.size 0 (l.take k) ∧ HRoom wr w.heap.size (n * 2) ∧ (w.heap.size < wr.heap.size ∧ ∀ o, wr.frozen? ⟨w.heap.size, o, none⟩ = false) ∧ Below w.heap.size w wr) (fun i _ => n - (intOf i).toNat)
  case atStart => exact ⟨0, Nat.zero_le _, rfl, fun i r hr => by simp at hr, HR1.out.1, HR1.out.2.1, HR1.out.2.2⟩
  case round =>
    obtain ⟨k, hk, rfl, hat, hroom, hfr, hb⟩ := hrel
    have HFR : Hid (w.heap.size < wr.heap.size ∧ ∀ o, wr.frozen? ⟨w.heap.size, o, none⟩ = false) := hfr
    clear hfr
    clear HR1
    by_cases hlt : k < n
    · obtain ⟨r, hr⟩ : ∃ r, l[k]? = some r := ⟨l[k]'(by have := HN.out; omega), List.getElem?_eq_getElem _⟩
      rcases HI.out with h | ⟨b, off, rfl, hsrc⟩
      · subst h; simp at hr
      have hblt : b < w.heap.size := block_lt_of_cell (hsrc k r hr).1
      have hkeep := (hsrc.keep (w' := w) (Below.refl _ _)) k r hr
      have p1 : wr.cell? ⟨b, off + k * 2, none⟩ = some (.string r.name) := by rw [hb.cell (p := ⟨b, off + k * 2, none⟩) hblt]; exact hkeep.1
      have p3 : wr.cell? ⟨b, off + k * 2 + 1, none⟩ = some (.string r.value) := by rw [hb.cell (p := ⟨b, off + k * 2 + 1, none⟩) hblt]; exact hkeep.2
      have HA : Hid (HeadsAt wr w.heap.size 0 (l.take k)) := hat
      have HM : Hid (HRoom wr w.heap.size (n * 2)) := hroom
      have HR : Hid (l[k]? = some r) := hr
      have g : (k : Int) < n := by omega
      clear hat hroom hr hsrc hkeep HI
      go_wp2_with fail
      refine (toHeader_any r _).mono ?_
      rintro e w2 ⟨rfl, hb2⟩
      have HA2 : Hid (HeadsAt w2 w.heap.size 0 (l.take k)) := HA.out.keep hb2
      have HM2 : Hid (HRoom w2 w.heap.size (n * 2)) := HM.out.keep hb2
      have hbb : Below w.heap.size w w2 := hb.trans (hb2.mono hb.size)
      have HFR2 : Hid (w.heap.size < w2.heap.size ∧ ∀ o, w2.frozen? ⟨w.heap.size, o, none⟩ = false) := ⟨Nat.lt_of_lt_of_le HFR.out.1 hb2.size, fun o => by rw [hb2.frozen (p := ⟨w.heap.size, o, none⟩) HFR.out.1]; exact HFR.out.2 o⟩
      obtain ⟨⟨u0, g0⟩, f0⟩ := HM2.out (k * 2) (by omega)
      obtain ⟨⟨u1, g1⟩, f1⟩ := HM2.out (k * 2 + 1) (by omega)
      have HP : Hid (HeadsAt (put2 w2 w.heap.size k r) w.heap.size 0 (l.take (k + 1)) ∧ HRoom (put2 w2 w.heap.size k r) w.heap.size (n * 2)) := ⟨HA2.out.put HR.out HM2.out hlt, HM2.out.put k r⟩
      clear HA HM HA2 HM2 hb2 hb p1 p3
      obtain ⟨rn, rv⟩ := r
      go_wp2_with fail
      go_roundw
      case rel => exact ⟨k + 1, by omega, by go_num, HP.out.1, HP.out.2, ⟨by simpa using HFR2.out.1, fun o => by rw [World.frozen?_setCell, World.frozen?_setCell]; exact HFR2.out.2 o⟩, (hbb.setCell (Nat.le_refl _) _).setCell (Nat.le_refl _) _⟩
      case measure => simp [intOf]; omega
    · have HF : Hid (HeadsAt wr w.heap.size 0 l) := by
        have e : l.take k = l := List.take_of_length_le (by have := HN.out; omega)
        rw [e] at hat
        exact hat
      clear hat hroom
      go_wp2_with fail
      go_ret
      exact ⟨rfl, HF.out, HFR.out.1, HFR.out.2, hb⟩
end Go.Proofs.YtojcjpdgjohldaaGreatDoor
/-
  Requests that came in: measured, taken over, compared.
-/
namespace Go.Proofs.YtojcjpdgjohldaaGreatDoor
open Go.ChangeShapes Go.WideShapes Go.ChangeAt Go.RowKit
/-- Lines of the law's own, that may be written. -/
structure QMine (W : World) (B : Nat) (l : List Hdr) : Prop where
  at0 : HeadsAt W B 0 l
  free : ∀ o, W.frozen? ⟨B, o, none⟩ = false
  lt : B < W.heap.size
theorem QMine.keep {W W' : World} {B : Nat} {l : List Hdr} (h : QMine W B l) (hb : Below W.heap.size W W') : QMine W' B l :=
  ⟨h.at0.keep hb, fun o => by rw [hb.frozen (p := ⟨B, o, none⟩) h.lt]; exact h.free o, Nat.lt_of_lt_of_le h.lt hb.size⟩
def szR (left : Int) (m h p : ByteArray) (l : List Hdr) : Int :=
  if left - (m.size : Int) < 0 then -1 else if left - (m.size : Int) - (h.size : Int) < 0 then -1 else if left - (m.size : Int) - (h.size : Int) - (p.size : Int) < 0 then -1 else
    if szHL (left - (m.size : Int) - (h.size : Int) - (p.size : Int)) l < 0 then -1 else szHL (left - (m.size : Int) - (h.size : Int) - (p.size : Int)) l
theorem szR_room {left : Int} {m h p : ByteArray} {l : List Hdr} (hl : left ≤ 1048576) (hz : ¬ szR left m h p l < 0) : m.size ≤ 1048576 ∧ h.size ≤ 1048576 ∧ p.size ≤ 1048576 ∧ l.length ≤ 1048576 ∧ szR left m h p l ≤ left := by
  unfold szR at hz ⊢
  by_cases c1 : left - (m.size : Int) < 0
  · rw [if_pos c1] at hz; omega
  rw [if_neg c1] at hz ⊢
  by_cases c2 : left - (m.size : Int) - (h.size : Int) < 0
  · rw [if_pos c2] at hz; omega
  rw [if_neg c2] at hz ⊢
  by_cases c3 : left - (m.size : Int) - (h.size : Int) - (p.size : Int) < 0
  · rw [if_pos c3] at hz; omega
  rw [if_neg c3] at hz ⊢
  by_cases c4 : szHL (left - (m.size : Int) - (h.size : Int) - (p.size : Int)) l < 0
  · rw [if_pos c4] at hz; omega
  rw [if_neg c4] at hz ⊢
  have a := (szHL_room (by omega) c4).1
  have b := szHL_le c4
  exact ⟨by omega, by omega, by omega, by omega, by omega⟩
set_option maxHeartbeats 2000000 in
theorem szRequest_any (w : World) (m h p : ByteArray) (a : Option Addr) (cap : Nat) (l : List Hdr) (z1 : m.size ≤ maxLen) (z2 : h.size ≤ maxLen) (z3 : p.size ≤ maxLen) (hl : l.length ≤ maxLen) (hz : SmallHdrs l) (hi : HdsIn w a l) (left : Int) (h0 : 0 ≤ left) (h1 : left ≤ 1048576) :
    Calls Tryz.prog 35 #[.agg #[.string m, .string h, .string p, .slice a l.length cap], .int .i64 left] w fun e w' => e = .returned (.int .i64 (szR left m h p l)) ∧ Below w.heap.size w w' := by
  have HE : Hid (szR left m h p l = _) := show szR left m h p l = _ from rfl
  unfold szR at HE
  obtain ⟨W, hW⟩ : ∃ W, W = w.alloc (.cells #[.string m, .string h, .string p, .slice a l.length cap] 56) := ⟨_, rfl⟩
  have HW : Hid (W = w.alloc (.cells #[.string m, .string h, .string p, .slice a l.length cap] 56)) := hW
  have bW : Below w.heap.size w W := by rw [hW]; exact (Below.refl _ _).alloc (Nat.le_refl _) _
  have HB : Hid (Below w.heap.size w W) := bW
  unfold maxLen at z1 z2 z3
  by_cases c1 : left - (m.size : Int) < 0
  · have HV : Hid (szR left m h p l = -1) := by show _ = _; unfold szR; rw [if_pos c1]
    rw [HW.out] at HB
    clear HE hW bW HW hi hz
    generalize l.length = n at *
    go_enter Tryz.func35, Tryz.ntmps35
    go_wp2_with fail
    go_ret
    exact ⟨ret_int HV.out.symm, HB.out⟩
  by_cases c2 : left - (m.size : Int) - (h.size : Int) < 0
  · have HV : Hid (szR left m h p l = -1) := by show _ = _; unfold szR; rw [if_neg c1, if_pos c2]
    rw [HW.out] at HB
    clear HE hW bW HW hi hz
    generalize l.length = n at *
    go_enter Tryz.func35, Tryz.ntmps35
    go_wp2_with fail
    go_ret
    exact ⟨ret_int HV.out.symm, HB.out⟩
  by_cases c3 : left - (m.size : Int) - (h.size : Int) - (p.size : Int) < 0
  · have HV : Hid (szR left m h p l = -1) := by show _ = _; unfold szR; rw [if_neg c1, if_neg c2, if_pos c3]
    rw [HW.out] at HB
    clear HE hW bW HW hi hz
    generalize l.length = n at *
    go_enter Tryz.func35, Tryz.ntmps35
    go_wp2_with fail
    go_ret
    exact ⟨ret_int HV.out.symm, HB.out⟩
  have C := szHeaderS_any W a cap l hl (hi.keep bW) hz (left - (m.size : Int) - (h.size : Int) - (p.size : Int)) (by omega) (by omega)
  have HV1 : Hid (szHL (left - (m.size : Int) - (h.size : Int) - (p.size : Int)) l < 0 → szR left m h p l = -1) := fun c => by unfold szR; rw [if_neg c1, if_neg c2, if_neg c3, if_pos c]
  have HV2 : Hid (¬ szHL (left - (m.size : Int) - (h.size : Int) - (p.size : Int)) l < 0 → szR left m h p l = szHL (left - (m.size : Int) - (h.size : Int) - (p.size : Int)) l) := fun c => by unfold szR; rw [if_neg c1, if_neg c2, if_neg c3, if_neg c]
  clear HE hW bW hi hz
  generalize szHL (left - (m.size : Int) - (h.size : Int) - (p.size : Int)) l = z at *
  generalize l.length = n at *
  go_enter Tryz.func35, Tryz.ntmps35
  go_wp2_with fail
  rw [← HW.out]
  refine C.mono ?_
  rintro e w1 ⟨rfl, hb1⟩
  have HB1 : Hid (Below w.heap.size w w1) := HB.out.trans (hb1.mono HB.out.size)
  clear hb1 HB C HW
  by_cases c4 : z < 0
  · have HV := HV1.out c4
    have HV' : Hid (szR left m h p l = -1) := HV
    clear HV HV1 HV2
    go_wp2_with fail
    go_ret
    exact ⟨ret_int HV'.out.symm, HB1.out⟩
  · have HV' : Hid (szR left m h p l = z) := HV2.out (by omega)
    clear HV1 HV2
    go_wp2_with fail
    go_ret
    exact ⟨ret_int HV'.out.symm, HB1.out⟩
/-- Four cells of a block, laid out. -/
structure Four (W : World) (B : Nat) (v0 v1 v2 v3 : Value) : Prop where
  c0 : W.cell? ⟨B, 0, none⟩ = some v0
  c1 : W.cell? ⟨B, 1, none⟩ = some v1
  c2 : W.cell? ⟨B, 2, none⟩ = some v2
  c3 : W.cell? ⟨B, 3, none⟩ = some v3
  fr : ∀ o, W.frozen? ⟨B, o, none⟩ = false
  lt : B < W.heap.size
theorem Four.keep {W W' : World} {B : Nat} {v0 v1 v2 v3 : Value} (h : Four W B v0 v1 v2 v3) (hb : Below W.heap.size W W') : Four W' B v0 v1 v2 v3 :=
  ⟨by rw [hb.cell (p := ⟨B, 0, none⟩) h.lt]; exact h.c0, by rw [hb.cell (p := ⟨B, 1, none⟩) h.lt]; exact h.c1, by rw [hb.cell (p := ⟨B, 2, none⟩) h.lt]; exact h.c2, by rw [hb.cell (p := ⟨B, 3, none⟩) h.lt]; exact h.c3,
    fun o => by rw [hb.frozen (p := ⟨B, o, none⟩) h.lt]; exact h.fr o, Nat.lt_of_lt_of_le h.lt hb.size⟩
theorem Four.new (W : World) (v0 v1 v2 v3 : Value) (t : TypeId) : Four (W.alloc (.cells #[v0, v1, v2, v3] t)) W.heap.size v0 v1 v2 v3 :=
  ⟨by rw [World.cell?_alloc_mark]; rfl, by rw [World.cell?_alloc_mark]; rfl, by rw [World.cell?_alloc_mark]; rfl, by rw [World.cell?_alloc_mark]; rfl, fun o => by have e := heap_alloc_new W (.cells #[v0, v1, v2, v3] t); unfold World.frozen?; rw [e]; simp, by simp⟩
set_option maxHeartbeats 2000000 in
theorem toRequest_any (w : World) (m h p : ByteArray) (a : Option Addr) (cap : Nat) (l : List Hdr) (hl : l.length ≤ 1048576) (hi : HdsIn w a l) :
    Calls Tryz.prog 37 #[.agg #[.string m, .string h, .string p, .slice a l.length cap]] w fun e w' => e = .returned (.agg #[.string m, .string h, .string p, .slice (some ⟨w.heap.size + 3, 0, none⟩) l.length l.length]) ∧ QMine w' (w.heap.size + 3) l ∧ Below w.heap.size w w' := by
  obtain ⟨W, hW⟩ : ∃ W, W = ((w.alloc (.cells #[.string m, .string h, .string p, .slice a l.length cap] 56)).alloc (.cells #[.string ⟨#[]⟩, .string ⟨#[]⟩, .string ⟨#[]⟩, .slice none 0 0] 26)).alloc (.cells #[.string m, .string h, .string p, .slice none 0 0] 26) := ⟨_, rfl⟩
  have HW : Hid (W = ((w.alloc (.cells #[.string m, .string h, .string p, .slice a l.length cap] 56)).alloc (.cells #[.string ⟨#[]⟩, .string ⟨#[]⟩, .string ⟨#[]⟩, .slice none 0 0] 26)).alloc (.cells #[.string m, .string h, .string p, .slice none 0 0] 26)) := hW
  have bW : Below w.heap.size w W := by rw [hW]; exact (((Below.refl _ _).alloc (Nat.le_refl _) _).alloc (by simp) _).alloc (by simp; omega) _
  have hsz : W.heap.size = w.heap.size + 3 := by rw [hW]; simp
  have f2 : Four W (w.heap.size + 2) (.string m) (.string h) (.string p) (.slice none 0 0) := by
    rw [hW]
    have := Four.new ((w.alloc (.cells #[.string m, .string h, .string p, .slice a l.length cap] 56)).alloc (.cells #[.string ⟨#[]⟩, .string ⟨#[]⟩, .string ⟨#[]⟩, .slice none 0 0] 26)) (.string m) (.string h) (.string p) (.slice none 0 0) 26
    simpa using this
  have f1 : Four W (w.heap.size + 1) (.string ⟨#[]⟩) (.string ⟨#[]⟩) (.string ⟨#[]⟩) (.slice none 0 0) := by
    rw [hW]
    have := (Four.new (w.alloc (.cells #[.string m, .string h, .string p, .slice a l.length cap] 56)) (.string ⟨#[]⟩) (.string ⟨#[]⟩) (.string ⟨#[]⟩) (.slice none 0 0) 26).keep ((Below.refl _ _).alloc (Nat.le_refl _) (.cells #[.string m, .string h, .string p, .slice none 0 0] 26))
    simpa using this
  have C := toHeaderS_free W a cap l hl (hi.keep bW)
  rw [hsz] at C
  have HB : Hid (Below w.heap.size w W) := bW
  have HZ : Hid (W.heap.size = w.heap.size + 3) := hsz
  have F1 : Hid (Four W (w.heap.size + 1) (.string ⟨#[]⟩) (.string ⟨#[]⟩) (.string ⟨#[]⟩) (.slice none 0 0)) := f1
  have F2 : Hid (Four W (w.heap.size + 2) (.string m) (.string h) (.string p) (.slice none 0 0)) := f2
  clear hW bW hi hsz f1 f2
  generalize l.length = n at *
  go_enter Tryz.func37, Tryz.ntmps37
  go_wp2_with fail
  rw [← HW.out]
  refine C.mono ?_
  rintro e w1 ⟨rfl, hat, hlt, hfr, hb1⟩
  have hb1' : Below W.heap.size W w1 := by rw [HZ.out]; exact hb1
  obtain ⟨a0, a1, a2, a3, af, al⟩ := F2.out.keep hb1'
  obtain ⟨b0, b1, b2, b3, bf, bl⟩ := F1.out.keep hb1'
  have a3f := af 3
  have b0f := bf 0
  have b1f := bf 1
  have b2f := bf 2
  have b3f := bf 3
  have HM : Hid (QMine w1 (w.heap.size + 3) l) := ⟨hat, hfr, hlt⟩
  have HB1 : Hid (Below w.heap.size w w1) := HB.out.trans (hb1'.mono HB.out.size)
  have HQ : Hid (∀ W', (∀ o, W'.cell? ⟨w.heap.size + 3, o, none⟩ = w1.cell? ⟨w.heap.size + 3, o, none⟩) → (∀ o, W'.frozen? ⟨w.heap.size + 3, o, none⟩ = w1.frozen? ⟨w.heap.size + 3, o, none⟩) → W'.heap.size = w1.heap.size → QMine W' (w.heap.size + 3) l) := fun W' h1 h2 h3 =>
    ⟨fun i r hr => by rw [h1, h1]; exact hat i r hr, fun o => by rw [h2]; exact hfr o, by rw [h3]; exact hlt⟩
  clear hat hlt hfr hb1 hb1' C HW HB HZ F1 F2 af bf al bl HM
  go_wp2_with fail
  refine bodyPost_ret (v := .agg #[.string m, .string h, .string p, .slice (some ⟨w.heap.size + 3, 0, none⟩) n n]) ?_ rfl ⟨rfl, HQ.out _ (fun o => ?_) (fun o => ?_) ?_, ?_⟩
  · simp [results, Tryz.results37, go_sem, b0, b1, b2, b3]
  · have ne : ∀ k j : Nat, k < w.heap.size + 3 → (⟨k, j, none⟩ : Addr) ≠ ⟨w.heap.size + 3, o, none⟩ := fun k j hk e => by have := congrArg Addr.block e; simp only at this; omega
    rw [World.cell?_setCell_other _ _ _ _ (ne _ _ (by omega)), World.cell?_setCell_other _ _ _ _ (ne _ _ (by omega)), World.cell?_setCell_other _ _ _ _ (ne _ _ (by omega)), World.cell?_setCell_other _ _ _ _ (ne _ _ (by omega)), World.cell?_setCell_other _ _ _ _ (ne _ _ (by omega))]
  · simp only [World.frozen?_setCell]
  · simp
  · exact ((((HB1.out.setCell (by simp; omega) _).setCell (by simp) _).setCell (by simp) _).setCell (by simp) _).setCell (by simp) _
set_option maxHeartbeats 2000000 in
theorem eqRequest_same (W : World) (m h p : ByteArray) (b1 b2 : Nat) (l : List Hdr) (hl : l.length ≤ 1048576) (h1 : HeadsAt W b1 0 l) (h2 : HeadsAt W b2 0 l) :
    Calls Tryz.prog 39 #[.agg #[.string m, .string h, .string p, .slice (some ⟨b1, 0, none⟩) l.length l.length], .agg #[.string m, .string h, .string p, .slice (some ⟨b2, 0, none⟩) l.length l.length]] W fun e w' => e = .returned (.bool true) ∧ Below W.heap.size W w' := by
  have bW : Below W.heap.size W ((W.alloc (.cells #[.string m, .string h, .string p, .slice (some ⟨b1, 0, none⟩) l.length l.length] 26)).alloc (.cells #[.string m, .string h, .string p, .slice (some ⟨b2, 0, none⟩) l.length l.length] 26)) := ((Below.refl _ _).alloc (Nat.le_refl _) _).alloc (by simp) _
  have C := eqHeaderS_same _ b1 0 b2 0 l.length l.length l hl (h1.keep bW) (h2.keep bW)
  have HB : Hid (Below W.heap.size W _) := bW
  clear bW h1 h2
  generalize l.length = n at *
  go_enter Tryz.func39, Tryz.ntmps39
  go_wp2_with fail
  refine C.mono ?_
  rintro e w1 ⟨rfl, hb1⟩
  have HB1 : Hid (Below W.heap.size W w1) := HB.out.trans (hb1.mono HB.out.size)
  clear hb1 HB C
  go_wp2_with fail
  go_ret
  exact ⟨rfl, HB1.out⟩
end Go.Proofs.YtojcjpdgjohldaaGreatDoor
