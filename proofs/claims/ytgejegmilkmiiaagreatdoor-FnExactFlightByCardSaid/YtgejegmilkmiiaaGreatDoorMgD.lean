/-
  Texts of one claim, one behind the other.
-/
import Derived.BigQuiet
import Derived.Lib.QuietBelow
import Derived.Test.YtgejegmilkmiiaaGreatDoorMgC
/-
  The fault of a list of flights, plainly; signs that are apart.
-/
namespace Go.Proofs.YtgejegmilkmiiaaGreatDoor
open Go.ChangeShapes Go.WideShapes Go.ChangeAt Go.RowKit Go.Sort
theorem tabS_none (k : Nat) : ∀ (l : List Sg) (p : Sg → Option Nat) (a : Bool) (y : Sg), (tabS k l p a).1 y = none ↔ p y = none ∧ y ∉ l
  | [], p, a, y => by simp [tabS]
  | s :: l, p, a, y => by
    rw [tabS, tabS_none k l]
    by_cases e : sgEq y s = true
    · have q := sgEq_iff.1 e
      subst q
      simp [e]
    · have q : y ≠ s := fun h => e (sgEq_iff.2 h)
      simp [e, q]
def allSg (l : List Fl) : List Sg := l.flatMap signsF
theorem tabF_iff : ∀ (l : List Fl) (k : Nat) (p : Sg → Option Nat) (a : Bool), (tabF k l p a).2 = true ↔ a = true ∧ (allSg l).Nodup ∧ ∀ s ∈ allSg l, p s = none
  | [], k, p, a => by simp [tabF, allSg]
  | x :: l, k, p, a => by
    rw [tabF, tabF_iff l, tabS_iff]
    have e : allSg (x :: l) = signsF x ++ allSg l := rfl
    rw [e, List.nodup_append]
    constructor
    · rintro ⟨⟨h1, h2, h3⟩, h4, h5⟩
      refine ⟨h1, ⟨h2, h4, fun s hs y hy q => ?_⟩, fun s hs => ?_⟩
      · subst q
        exact ((tabS_none k _ p a s).1 (h5 s hy)).2 hs
      · rcases List.mem_append.1 hs with hs | hs
        · exact h3 s hs
        · exact ((tabS_none k _ p a s).1 (h5 s hs)).1
    · rintro ⟨h1, ⟨h2, h3, h4⟩, h5⟩
      exact ⟨⟨h1, h2, fun s hs => h5 s (List.mem_append_left _ hs)⟩, h3, fun s hs => (tabS_none k _ p a s).2 ⟨h5 s (List.mem_append_right _ hs), fun hm => h4 s hm s hs rfl⟩⟩
theorem nodup_kinds {L : List Sg} (hk : ∀ s ∈ L, s.kd = 0 ∨ s.kd = 1 ∨ s.kd = 2) : L.Nodup ↔ (L.filter fun s => decide (s.kd = 0)).Nodup ∧ (L.filter fun s => decide (s.kd = 1)).Nodup ∧ (L.filter fun s => decide (s.kd = 2)).Nodup := by
  constructor
  · intro h
    exact ⟨h.filter _, h.filter _, h.filter _⟩
  · rintro ⟨h0, h1, h2⟩
    induction L with
    | nil => exact List.nodup_nil
    | cons s L ih =>
      have hk' : ∀ s ∈ L, s.kd = 0 ∨ s.kd = 1 ∨ s.kd = 2 := fun y hy => hk y (List.mem_cons_of_mem _ hy)
      rw [List.nodup_cons]
      have sub : ∀ i : Int, ((s :: L).filter fun s => decide (s.kd = i)).Nodup → (L.filter fun s => decide (s.kd = i)).Nodup := fun i h => by
        rw [List.filter_cons] at h
        split at h
        · exact (List.nodup_cons.1 h).2
        · exact h
      refine ⟨fun hm => ?_, ih hk' (sub 0 h0) (sub 1 h1) (sub 2 h2)⟩
      have bad : ∀ i : Int, s.kd = i → ¬ ((s :: L).filter fun s => decide (s.kd = i)).Nodup := fun i e h => by
        rw [List.filter_cons_of_pos (by simpa using e), List.nodup_cons] at h
        exact h.1 (List.mem_filter.2 ⟨hm, by simpa using e⟩)
      rcases hk s (List.mem_cons_self ..) with e | e | e
      · exact bad 0 e h0
      · exact bad 1 e h1
      · exact bad 2 e h2
def allWr (l : List Fl) : List Wr := l.flatMap Fl.ws
theorem wSigns_none (ws : List Wr) (i : Int) (h : i ≠ 2) : ((ws.map wSign).filter fun s => decide (s.kd = i)) = [] := by
  rw [List.filter_eq_nil_iff]
  intro s hs
  obtain ⟨y, _, rfl⟩ := List.mem_map.1 hs
  have q : (wSign y).kd = 2 := rfl
  rw [q]
  simpa using fun e : (2 : Int) = i => h e.symm
theorem wSigns_all (ws : List Wr) : ((ws.map wSign).filter fun s => decide (s.kd = 2)) = ws.map wSign := by
  rw [List.filter_eq_self]
  intro s hs
  obtain ⟨y, _, rfl⟩ := List.mem_map.1 hs
  rfl
theorem all_ids : ∀ l : List Fl, ((allSg l).filter fun s => decide (s.kd = 0)) = l.map fun x => (⟨0, x.id, ⟨#[]⟩⟩ : Sg)
  | [] => rfl
  | x :: l => by
    have e : allSg (x :: l) = ⟨0, x.id, ⟨#[]⟩⟩ :: ⟨1, 0, x.key⟩ :: (x.ws.map wSign ++ allSg l) := rfl
    rw [e, List.filter_cons_of_pos (by rfl), List.filter_cons_of_neg (by simp), List.filter_append, wSigns_none _ _ (by decide), all_ids l]
    rfl
theorem all_keys : ∀ l : List Fl, ((allSg l).filter fun s => decide (s.kd = 1)) = l.map fun x => (⟨1, 0, x.key⟩ : Sg)
  | [] => rfl
  | x :: l => by
    have e : allSg (x :: l) = ⟨0, x.id, ⟨#[]⟩⟩ :: ⟨1, 0, x.key⟩ :: (x.ws.map wSign ++ allSg l) := rfl
    rw [e, List.filter_cons_of_neg (by simp), List.filter_cons_of_pos (by rfl), List.filter_append, wSigns_none _ _ (by decide), all_keys l]
    rfl
theorem all_reqs : ∀ l : List Fl, ((allSg l).filter fun s => decide (s.kd = 2)) = (allWr l).map wSign
  | [] => rfl
  | x :: l => by
    have e : allSg (x :: l) = ⟨0, x.id, ⟨#[]⟩⟩ :: ⟨1, 0, x.key⟩ :: (x.ws.map wSign ++ allSg l) := rfl
    have e2 : allWr (x :: l) = x.ws ++ allWr l := rfl
    rw [e, List.filter_cons_of_neg (by simp), List.filter_cons_of_neg (by simp), List.filter_append, wSigns_all, all_reqs l, e2, List.map_append]
theorem kinds_all (l : List Fl) : ∀ s ∈ allSg l, s.kd = 0 ∨ s.kd = 1 ∨ s.kd = 2 := by
  intro s hs
  obtain ⟨x, _, hx⟩ := List.mem_flatMap.1 hs
  unfold signsF at hx
  rcases List.mem_cons.1 hx with rfl | hx
  · exact .inl rfl
  · rcases List.mem_cons.1 hx with rfl | hx
    · exact .inr (.inl rfl)
    · obtain ⟨y, _, rfl⟩ := List.mem_map.1 hx
      exact .inr (.inr rfl)
def riseF (l : List Fl) : Bool := decide ((l.map Fl.id).Pairwise (· < ·))
def keysR (l : List Fl) : Bool := decide ((l.map Fl.key).Nodup)
theorem tab_all (l : List Fl) (hr : riseF l = true) : (tabF 0 l none3 true).2 = (keysR l && nodR (allWr l)) := by
  have k := tabF_iff l 0 none3 true
  have hids : (l.map fun x => (⟨0, x.id, ⟨#[]⟩⟩ : Sg)).Nodup := by
    unfold riseF at hr
    have h := of_decide_eq_true hr
    rw [List.pairwise_map] at h
    unfold List.Nodup
    rw [List.pairwise_map]
    exact h.imp fun {a b} q e => by
      have := congrArg Sg.nm e
      simp at this
      omega
  have hkeys : (l.map fun x => (⟨1, 0, x.key⟩ : Sg)).Nodup ↔ (l.map Fl.key).Nodup := by
    unfold List.Nodup
    rw [List.pairwise_map, List.pairwise_map]
    have e : (fun a b : Fl => (⟨1, 0, a.key⟩ : Sg) ≠ ⟨1, 0, b.key⟩) = (fun a b : Fl => a.key ≠ b.key) := by
      funext a b
      simp
    rw [e]
  have hreq : ((allWr l).map wSign).Nodup ↔ ((allWr l).map Wr.rq).Nodup := by
    unfold List.Nodup
    rw [List.pairwise_map, List.pairwise_map]
    have e : (fun a b : Wr => wSign a ≠ wSign b) = (fun a b : Wr => a.rq ≠ b.rq) := by
      funext a b
      simp [wSign]
    rw [e]
  rw [nodup_kinds (kinds_all l), all_ids, all_keys, all_reqs, hkeys, hreq] at k
  have k2 : (tabF 0 l none3 true).2 = true ↔ (keysR l && nodR (allWr l)) = true := by
    rw [k, Bool.and_eq_true]
    unfold keysR nodR
    rw [decide_eq_true_eq, decide_eq_true_eq]
    exact ⟨fun h => ⟨h.2.1.2.1, h.2.1.2.2⟩, fun h => ⟨rfl, ⟨hids, h.1, h.2⟩, fun s _ => rfl⟩⟩
  cases e : (keysR l && nodR (allWr l)) with
  | true => exact k2.2 e
  | false =>
    cases e2 : (tabF 0 l none3 true).2 with
    | false => rfl
    | true => rw [k2.1 e2] at e; cases e
/-- The first fault in a list; 0: none. -/
def firstC : List Fl → Int
  | [] => 0
  | x :: l => if flC x ≠ 0 then flC x else firstC l
def flsC (l : List Fl) : Int := if 24 < l.length then 2 else if firstC l ≠ 0 then firstC l else if riseF l = false then 1 else if (keysR l && nodR (allWr l)) = false then 6 else 0
theorem firstC_zero : ∀ {l : List Fl}, firstC l = 0 → ∀ x ∈ l, flC x = 0
  | [], _, x, hx => by simp at hx
  | y :: l, h, x, hx => by
    rw [firstC] at h
    by_cases c : flC y = 0
    · rw [if_neg (by simpa using c)] at h
      rcases List.mem_cons.1 hx with rfl | hx
      · exact c
      · exact firstC_zero h x hx
    · rw [if_pos c] at h; exact absurd h c
theorem firstC_drop {l : List (Fl × FlR)} {k : Nat} {q : Fl × FlR} (h : l[k]? = some q) : firstC ((l.map Prod.fst).drop k) = if flC q.1 ≠ 0 then flC q.1 else firstC ((l.map Prod.fst).drop (k + 1)) := by
  obtain ⟨hj, rfl⟩ := List.getElem?_eq_some_iff.1 h
  rw [List.drop_eq_getElem_cons (i := k) (by simpa using hj), firstC]
  simp
end Go.Proofs.YtgejegmilkmiiaaGreatDoor
/-
  Ids that rise, by the program.
-/
namespace Go.Proofs.YtgejegmilkmiiaaGreatDoor
open Go.ChangeShapes Go.WideShapes Go.ChangeAt Go.RowKit Go.Sort
theorem riseF_iff (l : List Fl) : riseF l = true ↔ ∀ (i : Nat) x y, l[i]? = some x → l[i + 1]? = some y → x.id < y.id := by
  unfold riseF
  rw [decide_eq_true_eq, List.pairwise_map, List.pairwise_iff_getElem]
  constructor
  · intro h i x y hx hy
    obtain ⟨hi, rfl⟩ := List.getElem?_eq_some_iff.1 hx
    obtain ⟨hj, rfl⟩ := List.getElem?_eq_some_iff.1 hy
    exact h i (i + 1) hi hj (by omega)
  · intro h i j hi hj hij
    have step : ∀ (d : Nat) (hd : i + d + 1 < l.length), l[i].id < l[i + d + 1].id := by
      intro d
      induction d with
      | zero =>
        intro hd
        exact h i _ _ (List.getElem?_eq_getElem hi) (List.getElem?_eq_getElem (by omega))
      | succ d ih =>
        intro hd
        have a := ih (by omega)
        have b := h (i + d + 1) _ _ (List.getElem?_eq_getElem (by omega)) (List.getElem?_eq_getElem (by omega))
        exact Int.lt_trans a b
    have := step (j - i - 1) (by omega)
    have e : i + (j - i - 1) + 1 = j := by omega
    simpa [e] using this
theorem rise_no {l : List (Fl × FlR)} {i : Nat} {x y : Fl × FlR} (hx : l[i]? = some x) (hy : l[i + 1]? = some y) (h : ¬ x.1.id < y.1.id) : riseF (l.map Prod.fst) = false := by
  cases e : riseF (l.map Prod.fst) with
  | false => rfl
  | true => exact absurd ((riseF_iff _).1 e i x.1 y.1 (by simp [hx]) (by simp [hy])) h
set_option maxRecDepth 100000 in
set_option maxHeartbeats 8000000 in
theorem doRise_any (w : World) (a : Option Addr) (cap : Nat) (l : List (Fl × FlR)) (hl : l.length ≤ 24) (hi : FlsIn w a l) :
    Calls Tryz.prog 77 #[.slice a l.length cap] w fun e w' => e = .returned (.bool (riseF (l.map Prod.fst))) ∧ Below w.heap.size w w' := by
  have HI : Hid (FlsIn w a l) := hi
  clear hi
  generalize hn : l.length = n at *
  have HN : Hid (l.length = n) := hn
  clear hn
  go_enter Tryz.func77, Tryz.ntmps77
  go_wp2_with fail
  go_loopw [3] (fun i wr => ∃ j : Nat, j ≤ n ∧ i = .int .i64 ((j : Int) + 1) ∧ (∀ (i : Nat) x y, i < j → l[i]? = some x → l[i + 1]? = some y → x.1.id < y.1.id) ∧ Below w.heap.size w wr) (fun i _ => n + 1 - (intOf i).toNat)
  case atStart => exact ⟨0, Nat.zero_le _, rfl, fun i x y h => absurd h (by omega), Below.refl _ _⟩
  case round =>
    obtain ⟨j, hj, rfl, hno, hb⟩ := hrel
    have HNO : Hid (∀ (i : Nat) x y, i < j → l[i]? = some x → l[i + 1]? = some y → x.1.id < y.1.id) := hno
    clear hno
    by_cases hlt : j + 1 < n
    · obtain ⟨x, hx⟩ : ∃ r, l[j]? = some r := ⟨l[j]'(by have := HN.out; omega), List.getElem?_eq_getElem _⟩
      obtain ⟨y, hy⟩ : ∃ r, l[j + 1]? = some r := ⟨l[j + 1]'(by have := HN.out; omega), List.getElem?_eq_getElem _⟩
      rcases HI.out with e | ⟨b', off', er, hat⟩
      · rw [e] at hx; simp at hx
      have x0 := cell_regrown ((hat.keep hb).cells hx).1
      have y0 := cell_regrown ((hat.keep hb).cells hy).1
      rw [er]
      have g : (j : Int) + 1 < n := by omega
      have g1 : (0 : Int) ≤ (j : Int) + 1 := by omega
      have g2 : (0 : Int) ≤ j := by omega
      have g3 : (j : Int) < n := by omega
      have hw : IntKind.i64.wrap ((j : Int) + 1 - 1) = (j : Int) := by rw [IntKind.wrap_i64]; omega
      have hw' : IntKind.i64.wrap (j : Int) = (j : Int) := by rw [IntKind.wrap_i64]; omega
      have HX : Hid (l[j]? = some x) := hx
      have HY : Hid (l[j + 1]? = some y) := hy
      clear hx hy hat er
      have HID : Hid (∀ d : Int, x.1.id = d → ∀ d' : Int, y.1.id = d' → (¬ d < d' → riseF (l.map Prod.fst) = false) ∧ (d < d' → ∀ (i : Nat) u v, i < j + 1 → l[i]? = some u → l[i + 1]? = some v → u.1.id < v.1.id)) := fun d hd d' hd' => ⟨fun h => rise_no HX.out HY.out (by rw [hd, hd']; exact h), fun h i u v hi hu hv => by
        by_cases e : i = j
        · subst e
          rw [HX.out] at hu
          rw [HY.out] at hv
          obtain rfl := Option.some.inj hu
          obtain rfl := Option.some.inj hv
          rw [hd, hd']
          exact h
        · exact HNO.out i u v (by omega) hu hv⟩
      have HID2 := HID.out x.1.id rfl y.1.id rfl
      have HID3 : Hid ((¬ x.1.id < y.1.id → riseF (l.map Prod.fst) = false) ∧ (x.1.id < y.1.id → ∀ (i : Nat) u v, i < j + 1 → l[i]? = some u → l[i + 1]? = some v → u.1.id < v.1.id)) := HID2
      clear HX HY HNO HID HID2
      generalize x.1.id = xi at *
      generalize y.1.id = yi at *
      by_cases c : yi ≤ xi
      · have HE : Hid (riseF (l.map Prod.fst) = false) := HID3.out.1 (by omega)
        have c' : decide (yi ≤ xi) = true := by simpa using c
        clear HID3
        go_wp2_with fail
        refine wp_region_quiet_below (by kernel_rfl) (by kernel_rfl) ?_
        repeat (go_big_quiet_step (fail))
        refine wpQuiet_nil ?_
        intro w2 hw2
        have hbb : Below w.heap.size w w2 := by
          obtain ⟨⟨d, os⟩, rfl⟩ := hw2
          exact hb.trans ((below_regrown wr d os).mono hb.size)
        clear x0 y0 hw2 hb
        go_wp2_with fail
        go_ret
        exact ⟨ret_bool HE.out.symm, hbb⟩
      · have HF : Hid (∀ (i : Nat) u v, i < j + 1 → l[i]? = some u → l[i + 1]? = some v → u.1.id < v.1.id) := HID3.out.2 (by omega)
        have c' : decide (yi ≤ xi) = false := by simpa using c
        clear HID3
        go_wp2_with fail
        refine wp_region_quiet_below (by kernel_rfl) (by kernel_rfl) ?_
        repeat (go_big_quiet_step (fail))
        refine wpQuiet_nil ?_
        intro w2 hw2
        have hbb : Below w.heap.size w w2 := by
          obtain ⟨⟨d, os⟩, rfl⟩ := hw2
          exact hb.trans ((below_regrown wr d os).mono hb.size)
        clear x0 y0 hw2 hb
        go_wp2_with fail
        go_roundw
        case rel => exact ⟨j + 1, by omega, by go_num, HF.out, hbb⟩
        case measure => simp [intOf]; omega
    · have HE : Hid (riseF (l.map Prod.fst) = true) := (riseF_iff _).2 fun i x y hx hy => by
        obtain ⟨p, hp, rfl⟩ := Option.map_eq_some_iff.1 (by rw [← List.getElem?_map]; exact hx : (l[i]?).map Prod.fst = some x)
        obtain ⟨q, hq, rfl⟩ := Option.map_eq_some_iff.1 (by rw [← List.getElem?_map]; exact hy : (l[i + 1]?).map Prod.fst = some y)
        exact HNO.out i p q (by have := (List.getElem?_eq_some_iff.1 hq).1; have := HN.out; omega) hp hq
      have g : ¬ (j : Int) + 1 < n := by omega
      clear HNO
      go_wp2_with fail
      go_ret
      exact ⟨ret_bool HE.out.symm, hb⟩
end Go.Proofs.YtgejegmilkmiiaaGreatDoor
/-
  A world in which one block alone has changed.
-/
namespace Go.Proofs.YtgejegmilkmiiaaGreatDoor
open Go.ChangeShapes Go.WideShapes Go.ChangeAt Go.RowKit Go.Sort
structure OneB (g : Nat) (w w' : World) : Prop where
  os : w'.os = w.os
  tape : w'.tape = w.tape
  output : w'.output = w.output
  size : w'.heap.size = w.heap.size
  block : ∀ k, k ≠ g → w'.heap[k]? = w.heap[k]?
theorem OneB.refl (g : Nat) (w : World) : OneB g w w := ⟨rfl, rfl, rfl, rfl, fun _ _ => rfl⟩
theorem OneB.trans {g : Nat} {w w1 w2 : World} (h : OneB g w w1) (k : OneB g w1 w2) : OneB g w w2 := ⟨k.os.trans h.os, k.tape.trans h.tape, k.output.trans h.output, k.size.trans h.size, fun i hi => (k.block i hi).trans (h.block i hi)⟩
theorem OneB.set (g : Nat) (w : World) (o : Nat) (u : Value) : OneB g w (w.setCell ⟨g, o, none⟩ u) := ⟨rfl, rfl, rfl, by simp [World.setCell], fun k hk => Below.heap_setCell _ _ _ _ hk⟩
theorem OneB.below {g B : Nat} {w w' : World} (h : OneB g w w') (hB : B ≤ g) : Below B w w' := ⟨h.os, h.tape, h.output, Nat.le_of_eq h.size.symm, fun k hk => h.block k (by omega)⟩
theorem OneB.cell {g : Nat} {w w' : World} (h : OneB g w w') {b : Nat} (o : Nat) (hb : b ≠ g) : w'.cell? ⟨b, o, none⟩ = w.cell? ⟨b, o, none⟩ := by
  exact World.cell?_of_block (w := w) (h.block b hb)
theorem OneB.frozen {g : Nat} {w w' : World} (h : OneB g w w') {b : Nat} (o : Nat) (hb : b ≠ g) : w'.frozen? ⟨b, o, none⟩ = w.frozen? ⟨b, o, none⟩ := by
  exact World.frozen?_of_block (w := w) (h.block b hb)
theorem S4.one {g : Nat} {w w' : World} {b : Nat} {v0 v1 v2 v3 : Value} (k : S4 w b v0 v1 v2 v3) (h : OneB g w w') (hb : b ≠ g) : S4 w' b v0 v1 v2 v3 :=
  ⟨by rw [h.cell _ hb]; exact k.c0, by rw [h.cell _ hb]; exact k.c1, by rw [h.cell _ hb]; exact k.c2, by rw [h.cell _ hb]; exact k.c3, fun o => by rw [h.frozen _ hb]; exact k.fr o, by rw [h.size]; exact k.lt⟩
theorem S5.one {g : Nat} {w w' : World} {b : Nat} {v0 v1 v2 v3 v4 : Value} (k : S5 w b v0 v1 v2 v3 v4) (h : OneB g w w') (hb : b ≠ g) : S5 w' b v0 v1 v2 v3 v4 :=
  ⟨by rw [h.cell _ hb]; exact k.c0, by rw [h.cell _ hb]; exact k.c1, by rw [h.cell _ hb]; exact k.c2, by rw [h.cell _ hb]; exact k.c3, by rw [h.cell _ hb]; exact k.c4, fun o => by rw [h.frozen _ hb]; exact k.fr o, by rw [h.size]; exact k.lt⟩
end Go.Proofs.YtgejegmilkmiiaaGreatDoor
/-
  A list in a row of one's own: what is appended; new lists.
-/
namespace Go.Proofs.YtgejegmilkmiiaaGreatDoor
open Go.ChangeShapes Go.WideShapes Go.ChangeAt Go.RowKit Go.Sort
def cellWr (r : Wr) : List Value := [.int .i64 r.rq, .bool r.hd, .int .i64 r.du, .bool r.lt]
def wWr (l : List Wr) : List Value := l.flatMap cellWr
theorem wWr_len (l : List Wr) : (wWr l).length = l.length * 4 := by
  induction l with
  | nil => rfl
  | cons r l ih => simp only [wWr, List.flatMap_cons, List.length_append, List.length_cons] at ih ⊢; rw [ih]; simp [cellWr]; omega
theorem wWr_at (l : List Wr) : ∀ (i : Nat) r, l[i]? = some r → (wWr l)[i * 4]? = some (.int .i64 r.rq) ∧ (wWr l)[i * 4 + 1]? = some (.bool r.hd) ∧ (wWr l)[i * 4 + 2]? = some (.int .i64 r.du) ∧ (wWr l)[i * 4 + 3]? = some (.bool r.lt) := by
  induction l with
  | nil => intro i r hr; simp at hr
  | cons x l ih =>
    intro i r hr
    have e : wWr (x :: l) = .int .i64 x.rq :: .bool x.hd :: .int .i64 x.du :: .bool x.lt :: wWr l := by simp [wWr, cellWr]
    rw [e]
    cases i with
    | zero => simp at hr; subst hr; simp
    | succ i =>
      have := ih i r (by simpa using hr)
      rw [show (i + 1) * 4 = i * 4 + 4 from by omega]
      simpa using this
theorem wWr_one (l : List Wr) : ∀ u ∈ wWr l, u.oneCell' = true := by
  intro u hu
  simp only [wWr, List.mem_flatMap] at hu
  obtain ⟨r, _, hr⟩ := hu
  simp only [cellWr, List.mem_cons, List.not_mem_nil, or_false] at hr
  rcases hr with rfl | rfl | rfl | rfl <;> rfl
theorem addWr (b off j : Nat) : (⟨b, off, none⟩ : Addr).add j = ⟨b, off + j, none⟩ := by unfold Addr.add; split <;> simp_all
theorem wWr_in {w : World} {a : Option Addr} {l : List Wr} (h : WrIn w a l) : l.length = 0 ∨ ∃ ad, a = some ad ∧ ∀ j u, (wWr l)[j]? = some u → w.cell? (ad.add j) = some u := by
  rcases h with rfl | ⟨b, off, rfl, h⟩
  · exact .inl rfl
  · refine .inr ⟨_, rfl, fun j u hj => ?_⟩
    rw [addWr]
    have hlt : j < (wWr l).length := (List.getElem?_eq_some_iff.1 hj).1
    rw [wWr_len] at hlt
    obtain ⟨r, hr⟩ : ∃ r, l[j / 4]? = some r := ⟨l[j / 4]'(by omega), List.getElem?_eq_getElem _⟩
    obtain ⟨e0, e1, e2, e3⟩ := wWr_at l (j / 4) r hr
    obtain ⟨c0, c1, c2, c3⟩ := h (j / 4) r hr
    obtain hm | hm | hm | hm : j % 4 = 0 ∨ j % 4 = 1 ∨ j % 4 = 2 ∨ j % 4 = 3 := by omega
    · have ej : j / 4 * 4 = j := by omega
      rw [ej] at e0 c0
      rw [e0] at hj
      rw [← hj]; exact c0
    · have ej : j / 4 * 4 + 1 = j := by omega
      rw [ej] at e1
      rw [Nat.add_assoc, ej] at c1
      rw [e1] at hj
      rw [← hj]; exact c1
    · have ej : j / 4 * 4 + 2 = j := by omega
      rw [ej] at e2
      rw [Nat.add_assoc, ej] at c2
      rw [e2] at hj
      rw [← hj]; exact c2
    · have ej : j / 4 * 4 + 3 = j := by omega
      rw [ej] at e3
      rw [Nat.add_assoc, ej] at c3
      rw [e3] at hj
      rw [← hj]; exact c3
/-- v, nil or not, holds l in a row of the call's own, from block base on. -/
def OwnWr (w : World) (base : Nat) (v : Value) (l : List Wr) : Prop := w.ownsRow base 31 4 v l.length (wWr l)
theorem OwnWr.none0 (w : World) (base : Nat) : OwnWr w base (.slice none 0 0) [] := World.ownsRow_nil _ _ _ _
theorem OwnWr.made0 (w : World) (base : Nat) (hb : base ≤ w.heap.size) : OwnWr (w.alloc (.cells #[] 31)) base (.slice (some ⟨w.heap.size, 0, none⟩) 0 0) [] := World.ownsRow_made w #[] 0 hb (by unfold maxLen; omega) rfl
theorem OwnWr.below {w w' : World} {base : Nat} {v : Value} {l : List Wr} (h : OwnWr w base v l) (hb : Below w.heap.size w w') : OwnWr w' base v l := row_below h hb
theorem OwnWr.lower {w : World} {b0 base : Nat} {v : Value} {l : List Wr} (h : OwnWr w base v l) (hb : b0 ≤ base) : OwnWr w b0 v l := row_lower h hb
theorem OwnWr.in {w : World} {base : Nat} {v : Value} {l : List Wr} (h : OwnWr w base v l) : ∃ a c, v = .slice a l.length c ∧ l.length ≤ c ∧ WrIn w a l := by
  have h0 := h
  obtain ⟨_, h1 | ⟨g, c, cur, rfl, _, _, hc, _⟩⟩ := h
  · have e : l = [] := List.eq_nil_of_length_eq_zero h1.2
    subst e
    exact ⟨none, 0, h1.1, Nat.le_refl _, .inl rfl⟩
  · refine ⟨_, c, rfl, hc, .inr ⟨g, 0, rfl, fun i r hr => ?_⟩⟩
    have hi := (List.getElem?_eq_some_iff.1 hr).1
    obtain ⟨a0, a1, a2, a3⟩ := wWr_at l i r hr
    have c0 := World.ownsRow.cellAt h0 (i * 4) (by omega)
    have c1 := World.ownsRow.cellAt h0 (i * 4 + 1) (by omega)
    have c2 := World.ownsRow.cellAt h0 (i * 4 + 2) (by omega)
    have c3 := World.ownsRow.cellAt h0 (i * 4 + 3) (by omega)
    exact ⟨by rw [Nat.zero_add, c0, a0], by rw [Nat.zero_add, c1, a1], by rw [Nat.zero_add, c2, a2], by rw [Nat.zero_add, c3, a3]⟩
/-- v holds l in a block of its own, from base on. -/
def WrNew (w : World) (base : Nat) (v : Value) (l : List Wr) : Prop := (l = [] ∧ ∃ a c, v = .slice a 0 c) ∨ ∃ g off cap, v = .slice (some ⟨g, off, none⟩) l.length cap ∧ base ≤ g ∧ g < w.heap.size ∧ WrAt w g off l ∧ ∀ o, w.frozen? ⟨g, o, none⟩ = false
theorem WrNew.in {w : World} {base : Nat} {v : Value} {l : List Wr} (h : WrNew w base v l) : ∃ a c, v = .slice a l.length c ∧ WrIn w a l := by
  rcases h with ⟨rfl, a, c, rfl⟩ | ⟨g, off, cap, rfl, _, _, h, _⟩
  · exact ⟨a, c, rfl, .inl rfl⟩
  · exact ⟨_, _, rfl, .inr ⟨g, off, rfl, h⟩⟩
theorem WrNew.keep {w w' : World} {base : Nat} {v : Value} {l : List Wr} (h : WrNew w base v l) (hb : Below w.heap.size w w') : WrNew w' base v l := by
  rcases h with h | ⟨g, off, cap, e, h1, h2, h3, h4⟩
  · exact .inl h
  · exact .inr ⟨g, off, cap, e, h1, Nat.lt_of_lt_of_le h2 hb.size, h3.keep hb, fun o => by rw [hb.frozen (p := ⟨g, o, none⟩) h2]; exact h4 o⟩
theorem WrNew.lower {w : World} {b0 base : Nat} {v : Value} {l : List Wr} (h : WrNew w base v l) (hb : b0 ≤ base) : WrNew w b0 v l := by
  rcases h with h | ⟨g, off, cap, e, h1, h2⟩
  · exact .inl h
  · exact .inr ⟨g, off, cap, e, by omega, h2⟩
theorem WrNew.nil (w : World) (base : Nat) (a : Option Addr) (c : Nat) : WrNew w base (.slice a 0 c) [] := .inl ⟨rfl, a, c, rfl⟩
theorem WrAt.one {g G off : Nat} {w w' : World} {l : List Wr} (h : WrAt w G off l) (k : OneB g w w') (hne : G ≠ g) : WrAt w' G off l := by
  intro i r hr
  obtain ⟨p0, p1, p2, p3⟩ := h i r hr
  exact ⟨by rw [k.cell _ hne]; exact p0, by rw [k.cell _ hne]; exact p1, by rw [k.cell _ hne]; exact p2, by rw [k.cell _ hne]; exact p3⟩
theorem WrNew.one {g : Nat} {w w' : World} {base : Nat} {v : Value} {l : List Wr} (h : WrNew w base v l) (k : OneB g w w') (hne : ∀ G, v.ownBlock = some G → G ≠ g) : WrNew w' base v l := by
  rcases h with h | ⟨G, off, cap, rfl, h1, h2, h3, h4⟩
  · exact .inl h
  · have hn := hne G rfl
    exact .inr ⟨G, off, cap, rfl, h1, by rw [k.size]; exact h2, h3.one k hn, fun o => by rw [k.frozen _ hn]; exact h4 o⟩
theorem OwnWr.new {w : World} {base : Nat} {v : Value} {l : List Wr} (h : OwnWr w base v l) : WrNew w base v l := by
  obtain ⟨a, c, e, _, hi⟩ := h.in
  obtain ⟨_, h1 | ⟨g, c', cur, rfl, hg, hh, _⟩⟩ := h
  · have e0 : l = [] := List.eq_nil_of_length_eq_zero h1.2
    exact .inl ⟨e0, none, 0, h1.1⟩
  · simp only [Value.slice.injEq, true_and] at e
    obtain ⟨rfl, rfl⟩ := e
    rcases hi with hi | ⟨b, off, e2, hat⟩
    · exact .inl ⟨hi, some ⟨g, 0, none⟩, c', by rw [hi]; rfl⟩
    · simp only [Option.some.injEq, Addr.mk.injEq, and_true] at e2
      obtain ⟨rfl, rfl⟩ := e2
      exact .inr ⟨g, 0, c', rfl, hg, (Array.getElem?_eq_some_iff.1 hh).1, hat, fun o => by simp [World.frozen?, hh]⟩
theorem WrNew.spot {w : World} {base : Nat} {a : Option Addr} {n c : Nat} {l : List Wr} (h : WrNew w base (.slice a n c) l) : ∃ g off, base ≤ g ∧ (l = [] ∨ (a = some ⟨g, off, none⟩ ∧ WrAt w g off l ∧ ∀ o, o < off + l.length * 4 → w.frozen? ⟨g, o, none⟩ = false)) ∧ (l = [] ∨ g < w.heap.size) := by
  rcases h with ⟨e, _⟩ | ⟨g, off, cap, e, h1, h2, h3, h4⟩
  · exact ⟨base, 0, Nat.le_refl _, .inl e, .inl e⟩
  · simp only [Value.slice.injEq] at e
    obtain ⟨rfl, rfl, rfl⟩ := e
    exact ⟨g, off, h1, .inr ⟨rfl, h3, fun o _ => h4 o⟩, .inr h2⟩
theorem wpList_append1Wr {ops : Array Oper} {rest : List Oper} {o : Oper} {a : Act} {Q : Exit → Act → World → Prop} (w : World) (hgd : o.guard = none) (s x : Operand)
    (ho : o.op = .call { callee := .builtin .append, args := #[s, x], argTypes := #[27, 27] }) (base : Nat) (v : Value) (l : List Wr) (r : Wr)
    (hs : a.eval s = v) (hx : a.eval x = .slice (some ⟨w.heap.size, 0, none⟩) 1 1) (hown : OwnWr w base v l) (hl : l.length ≤ 2000000) (hbase : base ≤ w.heap.size)
    (h : ∀ v' w', OwnWr w' base v' (l ++ [r]) → Below base w w' → w.grownBy w' v.ownBlock → wpList Tryz.prog ops Q rest (a.put o.dst v') w') :
    wpList Tryz.prog ops Q (o :: rest) a (w.alloc (.cells #[.int .i64 r.rq, .bool r.hd, .int .i64 r.du, .bool r.lt] 31)) := by
  obtain ⟨i0, hi, hz0, hz1, hz2⟩ := info_parts infoWr
  refine wpList_append_own _ hgd s x 27 ho base 31 i0 (.agg #[.int .i64 0, .bool false, .int .i64 0, .bool false]) 4 32 Tryz.underlying27 hi hz0 hz1 hz2 rfl (by decide) v l.length (wWr l) hs (World.ownsRow.alloc hown _) ⟨w.heap.size, 0, none⟩ 1 1 (cellWr r) hx rfl ?_ ?_ ?_ ?_ ?_ ?_
  · intro j u hj
    match j, hj with
    | 0, hj => simp [cellWr] at hj; subst hj; simp [Addr.add]
    | 1, hj => simp [cellWr] at hj; subst hj; simp [Addr.add]
    | 2, hj => simp [cellWr] at hj; subst hj; simp [Addr.add]
    | 3, hj => simp [cellWr] at hj; subst hj; simp [Addr.add]
  · intro u hu; simp [cellWr] at hu; rcases hu with rfl | rfl | rfl | rfl <;> rfl
  · unfold maxLen; omega
  · omega
  · simp; omega
  · intro v' w' h1 h2 h3
    have e : wWr (l ++ [r]) = wWr l ++ cellWr r := by simp [wWr]
    refine h v' w' (by unfold OwnWr; rw [e, List.length_append]; exact h1) ?_ ?_
    · exact ((Below.refl base w).alloc hbase _).grown h2 (by simp; omega) (fun q hq => row_ge hown q hq)
    · have hb := (Below.refl w.heap.size w).alloc (Nat.le_refl _) (.cells #[.int .i64 r.rq, .bool r.hd, .int .i64 r.du, .bool r.lt] 31)
      exact ⟨h2.os.trans hb.os, h2.tape.trans hb.tape, h2.output.trans hb.output, Nat.le_trans hb.size h2.size, fun q hq hn => (h2.block q (Nat.lt_of_lt_of_le hq hb.size) hn).trans (hb.block q hq)⟩
theorem wpList_appendInWr {ops : Array Oper} {rest : List Oper} {o : Oper} {a : Act} {Q : Exit → Act → World → Prop} (w : World) (hgd : o.guard = none) (s x : Operand)
    (ho : o.op = .call { callee := .builtin .append, args := #[s, x], argTypes := #[27, 27] }) (base : Nat) (v : Value) (l m : List Wr) (pa : Option Addr) (cap : Nat)
    (hs : a.eval s = v) (hx : a.eval x = .slice pa m.length cap) (hown : OwnWr w base v l) (hin : WrIn w pa m) (hl : l.length + m.length ≤ 2000000) (hbase : base ≤ w.heap.size)
    (h : ∀ v' w', OwnWr w' base v' (l ++ m) → Below base w w' → wpList Tryz.prog ops Q rest (a.put o.dst v') w') :
    wpList Tryz.prog ops Q (o :: rest) a w := by
  obtain ⟨i0, hi, hz0, hz1, hz2⟩ := info_parts infoWr
  refine wpList_plain hgd fun K hK => wp_append_in w s x 27 31 ho i0 (.agg #[.int .i64 0, .bool false, .int .i64 0, .bool false]) 4 32 Tryz.underlying27 hi hz0 hz1 hz2 rfl (by decide) base v l.length (wWr l) hs hown pa cap m.length (wWr m) hx (wWr_len m) (wWr_in hin) (wWr_one m) (by unfold maxLen; omega) (by omega) hbase fun v' w' h1 h2 _ => hK _ _ (h v' w' ?_ h2)
  unfold OwnWr
  rw [List.length_append, show wWr (l ++ m) = wWr l ++ wWr m by simp [wWr]]
  exact h1
end Go.Proofs.YtgejegmilkmiiaaGreatDoor
/-
  The fault of a list of flights, by the model.
-/
namespace Go.Proofs.YtgejegmilkmiiaaGreatDoor
open Go.ChangeShapes Go.WideShapes Go.ChangeAt Go.RowKit Go.Sort
theorem bt_inj {a b : ByteArray} (h : a.toList = b.toList) : a = b := by
  rw [ByteArray.toList_eq, ByteArray.toList_eq] at h
  exact ByteArray.ext (Array.toList_inj.1 h)
theorem keysR_iff (l : List Fl) : keysR l = true ↔ ∀ (i j : Nat) x y, j < i → l[i]? = some x → l[j]? = some y → x.key ≠ y.key := by
  unfold keysR
  rw [decide_eq_true_eq, List.Nodup, List.pairwise_iff_getElem]
  constructor
  · intro h i j x y hji hx hy e
    obtain ⟨hi, rfl⟩ := List.getElem?_eq_some_iff.1 hx
    obtain ⟨hj, rfl⟩ := List.getElem?_eq_some_iff.1 hy
    exact h j i (by simpa using hj) (by simpa using hi) hji (by simpa using e.symm)
  · intro h i j hi hj hij
    simp only [List.length_map] at hi hj
    simp only [List.getElem_map]
    exact fun e => h j i _ _ hij (List.getElem?_eq_getElem hj) (List.getElem?_eq_getElem hi) e.symm
theorem keysR_no {l : List (Fl × FlR)} {i j : Nat} {x y : Fl × FlR} (hji : j < i) (hx : l[i]? = some x) (hy : l[j]? = some y) (h : x.1.key = y.1.key) : keysR (l.map Prod.fst) = false := by
  cases e : keysR (l.map Prod.fst) with
  | false => rfl
  | true => exact absurd h ((keysR_iff _).1 e i j x.1 y.1 hji (by simp [hx]) (by simp [hy]))
theorem keysR_yes {l : List (Fl × FlR)} (h : ∀ (i j : Nat) x y, j < i → l[i]? = some x → l[j]? = some y → x.1.key ≠ y.1.key) : keysR (l.map Prod.fst) = true := (keysR_iff _).2 fun i j x y hji hx hy => by
  obtain ⟨p, hp, rfl⟩ := Option.map_eq_some_iff.1 (by rw [← List.getElem?_map]; exact hx : (l[i]?).map Prod.fst = some x)
  obtain ⟨q, hq, rfl⟩ := Option.map_eq_some_iff.1 (by rw [← List.getElem?_map]; exact hy : (l[j]?).map Prod.fst = some y)
  exact h i j p q hji hp hq
theorem riseF_yes {l : List (Fl × FlR)} (h : ∀ (i : Nat) x y, l[i]? = some x → l[i + 1]? = some y → x.1.id < y.1.id) : riseF (l.map Prod.fst) = true := (riseF_iff _).2 fun i x y hx hy => by
  obtain ⟨p, hp, rfl⟩ := Option.map_eq_some_iff.1 (by rw [← List.getElem?_map]; exact hx : (l[i]?).map Prod.fst = some x)
  obtain ⟨q, hq, rfl⟩ := Option.map_eq_some_iff.1 (by rw [← List.getElem?_map]; exact hy : (l[i + 1]?).map Prod.fst = some y)
  exact h i p q hp hq
theorem allWr_take {l : List (Fl × FlR)} {k : Nat} {q : Fl × FlR} (h : l[k]? = some q) : allWr ((l.map Prod.fst).take (k + 1)) = allWr ((l.map Prod.fst).take k) ++ q.1.ws := by
  obtain ⟨hj, rfl⟩ := List.getElem?_eq_some_iff.1 h
  rw [List.take_succ_eq_append_getElem (by simpa using hj)]
  simp [allWr]
theorem wWr_app (l m : List Wr) : wWr (l ++ m) = wWr l ++ wWr m := by simp [wWr]
set_option maxRecDepth 100000 in
set_option maxHeartbeats 16000000 in
theorem specFls_any (w : World) (a : Option Addr) (cap : Nat) (l : List (Fl × FlR)) (hf : ∀ q ∈ l, FlFit q.1) (hl : l.length ≤ 1048576) (hi : FlsIn w a l) :
    Calls Tryz.prog 27 #[.slice a l.length cap] w fun e w' => e = .returned (.int .i64 (flsC (l.map Prod.fst))) ∧ Below w.heap.size w w' := by
  have HI : Hid (FlsIn w a l) := hi
  have HFT : Hid (∀ q ∈ l, FlFit q.1) := hf
  obtain ⟨i0, hi0, hz0, hz1, hz2⟩ := info_parts infoWr
  obtain ⟨Z, hZ⟩ : ∃ Z, Hid (flsC (l.map Prod.fst) = Z) := ⟨_, rfl⟩
  rw [hZ.out]
  unfold flsC at hZ
  rw [List.length_map] at hZ
  clear hi hf
  generalize hn : l.length = n at *
  have HN : Hid (l.length = n) := hn
  clear hn
  by_cases c0 : (24 : Int) < n
  · have HR : Hid (2 = Z) := by have z := hZ.out; rw [if_pos (by omega)] at z; exact z
    clear hZ
    go_enter Tryz.func27, Tryz.ntmps27
    go_wp2_with fail
    go_ret
    exact ⟨ret_int HR.out, Below.refl _ _⟩
  rw [if_neg (by omega)] at hZ
  have B1 : Hid (Below w.heap.size w (w.alloc (.cells #[] 31))) := (Below.refl _ _).alloc (Nat.le_refl _) _
  have O1 : Hid ((w.alloc (.cells #[] 31)).ownsRow w.heap.size 31 4 (.slice (some ⟨w.heap.size, 0, none⟩) 0 0) 0 []) := World.ownsRow_made w #[] 0 (Nat.le_refl _) (by unfold maxLen; omega) rfl
  go_enter Tryz.func27, Tryz.ntmps27
  go_wp2_with fail
  go_loopw [3, 4] (fun v i wr => ∃ k m : Nat, k ≤ n ∧ i = .int .i64 k ∧ firstC (l.map Prod.fst) = firstC ((l.map Prod.fst).drop k) ∧ (allWr ((l.map Prod.fst).take k)).length = m ∧ m ≤ 10 * k ∧ wr.ownsRow w.heap.size 31 4 v m (wWr (allWr ((l.map Prod.fst).take k))) ∧ Below w.heap.size w wr) (fun _ i _ => n - (intOf i).toNat)
  case atStart => exact ⟨0, 0, Nat.zero_le _, rfl, rfl, rfl, Nat.zero_le _, O1.out, B1.out⟩
  case round =>
    obtain ⟨k, m, hk, rfl, hfc, hm, hmk, hrow, hb⟩ := hrel
    have HFC : Hid (firstC (l.map Prod.fst) = firstC ((l.map Prod.fst).drop k)) := hfc
    have HM : Hid ((allWr ((l.map Prod.fst).take k)).length = m) := hm
    obtain ⟨va, vc, rfl, _⟩ := row_form hrow
    clear hfc hm O1 B1
    by_cases hlt : k < n
    · obtain ⟨q, hq⟩ : ∃ q, l[k]? = some q := ⟨l[k]'(by have := HN.out; omega), List.getElem?_eq_getElem _⟩
      rcases HI.out with e | ⟨b1, o1, er, hat⟩
      · rw [e] at hq; simp at hq
      have PC := (hat.keep hb).cells hq
      have PI := (hat.keep hb).in hq
      have ft := HFT.out q (List.mem_of_getElem? hq)
      rw [er]
      have g : (k : Int) < n := by omega
      have g0 : (0 : Int) ≤ k := by omega
      have HD : Hid (firstC (l.map Prod.fst) = if flC q.1 ≠ 0 then flC q.1 else firstC ((l.map Prod.fst).drop (k + 1))) := by show _ = _; rw [HFC.out, firstC_drop hq]
      have HTK : Hid (allWr ((l.map Prod.fst).take (k + 1)) = allWr ((l.map Prod.fst).take k) ++ q.1.ws) := allWr_take hq
      have H10 : Hid (flC q.1 = 0 → q.1.ws.length ≤ 10) := fun h => (flC_zero h).2.2.2.2.2.2.1
      have HB : Hid (Below w.heap.size w wr) := hb
      have HRW : Hid (∀ X, Below wr.heap.size wr X → X.ownsRow w.heap.size 31 4 (.slice va m vc) m (wWr (allWr ((l.map Prod.fst).take k)))) := fun X hX => row_below hrow hX
      have HC : Hid (Calls Tryz.prog 19 #[.agg #[.int .i64 q.1.id, .string q.1.key, .bool q.1.bk, .bool q.1.ot, .int .i64 q.1.du, .bool q.1.dm, .string q.1.m, .string q.1.h, .string q.1.p, .slice q.2.ha q.1.hs.length q.2.hc, .slice q.2.wa q.1.ws.length q.2.wc]] wr fun e w' => e = .returned (.int .i64 (flC q.1)) ∧ Below wr.heap.size wr w') := specFl_any wr q.1 q.2 ft PI
      have HP10 : Hid (∀ X, Below w.heap.size w X → X.cell? ⟨b1, o1 + k * 11 + 10, none⟩ = some (.slice q.2.wa q.1.ws.length q.2.wc) ∧ WrIn X q.2.wa q.1.ws) := fun X hX => ⟨((hat.keep hX).cells hq).2.2.2.2.2.2.2.2.2.2, ((hat.keep hX).in hq).k⟩
      have p0 := PC.1
      have p1 := PC.2.1
      have p2 := PC.2.2.1
      have p3 := PC.2.2.2.1
      have p4 := PC.2.2.2.2.1
      have p5 := PC.2.2.2.2.2.1
      have p6 := PC.2.2.2.2.2.2.1
      have p7 := PC.2.2.2.2.2.2.2.1
      have p8 := PC.2.2.2.2.2.2.2.2.1
      have p9 := PC.2.2.2.2.2.2.2.2.2.1
      have p10 := PC.2.2.2.2.2.2.2.2.2.2
      clear PC PI hq hat hb er ft HFC hrow
      generalize flC q.1 = fc at *
      obtain ⟨⟨id, key, bk, ot, du, dm, mt, ho, pa, hs, ws⟩, ⟨ha, hc, wa, wc⟩⟩ := q
      simp only at p0 p1 p2 p3 p4 p5 p6 p7 p8 p9 p10 HC HTK H10 HP10
      generalize hs.length = hl' at *
      go_wp2_with fail
      refine HC.out.mono ?_
      rintro e0 w3 ⟨rfl, hb3⟩
      have B3 : Hid (Below w.heap.size w w3) := HB.out.trans (hb3.mono HB.out.size)
      have R3 : Hid (w3.ownsRow w.heap.size 31 4 (.slice va m vc) m (wWr (allWr ((l.map Prod.fst).take k)))) := HRW.out w3 hb3
      clear hb3 HB HC HRW p0 p1 p2 p3 p4 p5 p6 p7 p8 p9 p10
      by_cases c3 : fc = 0
      rotate_left
      · have HR : Hid (fc = Z) := by have z := hZ.out; rw [HD.out, if_pos c3, if_pos c3] at z; exact z
        have c3' : (fc != 0) = true := by simpa using c3
        clear hZ HD c3
        go_wp2_with fail
        go_ret
        exact ⟨ret_int HR.out, B3.out⟩
      subst c3
      have HD2 : Hid (firstC (l.map Prod.fst) = firstC ((l.map Prod.fst).drop (k + 1))) := by have z := HD.out; rw [if_neg (by simp)] at z; exact z
      have h10 := H10.out rfl
      have q10 := (HP10.out w3 B3.out).1
      have HIN : Hid (ws.length = 0 ∨ ∃ ad, wa = some ad ∧ ∀ j u, (wWr ws)[j]? = some u → w3.cell? (ad.add j) = some u) := wWr_in (HP10.out w3 B3.out).2
      have HLN : Hid ((wWr ws).length = ws.length * 4) := wWr_len ws
      have HON : Hid (∀ u ∈ wWr ws, u.oneCell' = true) := wWr_one ws
      have HT2 : Hid ((allWr ((l.map Prod.fst).take (k + 1))).length = m + ws.length ∧ wWr (allWr ((l.map Prod.fst).take k)) ++ wWr ws = wWr (allWr ((l.map Prod.fst).take (k + 1)))) := by
        rw [HTK.out]
        exact ⟨by rw [List.length_append, HM.out], (wWr_app _ _).symm⟩
      clear HD H10 HP10 HTK HM
      generalize ws.length = wn at *
      go_wp2_with (at_builtin; refine wpList_plain rfl fun _ hK => wp_append_in _ (.tmp 27) (.tmp 32) 27 31 rfl i0 _ 4 32 Tryz.underlying27 hi0 hz0 hz1 hz2 rfl (by omega) w.heap.size _ m (wWr (allWr ((l.map Prod.fst).take k))) rfl R3.out wa wc wn (wWr ws) rfl HLN.out HIN.out HON.out (by unfold maxLen; omega) (by omega) B3.out.size (fun v' w' h1 h2 _ => hK _ _ ?_))
      have HF : Hid (w'.ownsRow w.heap.size 31 4 v' (m + wn) (wWr (allWr ((l.map Prod.fst).take (k + 1)))) ∧ Below w.heap.size w w') := by
        rw [HT2.out.2] at h1
        exact ⟨h1, B3.out.trans h2⟩
      have HL2 : Hid ((allWr ((l.map Prod.fst).take (k + 1))).length = m + wn) := HT2.out.1
      clear h1 h2 R3 B3 HIN HLN HON HT2 q10
      go_wp2_with fail
      go_roundw
      case rel => exact ⟨k + 1, m + wn, by omega, by go_num, HD2.out, HL2.out, by omega, HF.out.1, HF.out.2⟩
      case measure => simp [intOf]; omega
    · have h0 : firstC (l.map Prod.fst) = 0 := by
        rw [HFC.out, List.drop_of_length_le (by have := HN.out; simp; omega)]
        rfl
      rw [h0, if_neg (by simp)] at hZ
      have htk : (l.map Prod.fst).take k = l.map Prod.fst := List.take_of_length_le (by have := HN.out; simp; omega)
      have HML : Hid ((allWr (l.map Prod.fst)).length = m) := by have z := HM.out; rw [htk] at z; exact z
      rw [htk] at hrow
      have HX : Hid (∀ X, Below wr.heap.size wr X → Below w.heap.size w X ∧ WrIn X va (allWr (l.map Prod.fst))) := fun X hX => by
        have z : OwnWr X w.heap.size (.slice va m vc) (allWr (l.map Prod.fst)) := by
          show X.ownsRow w.heap.size 31 4 (.slice va m vc) (allWr (l.map Prod.fst)).length _
          rw [HML.out]
          exact row_below hrow hX
        obtain ⟨a2, c2, e2, _, z2⟩ := z.in
        simp only [Value.slice.injEq] at e2
        rw [e2.1]
        exact ⟨hb.trans (hX.mono hb.size), z2⟩
      clear HFC HM h0 htk hrow hb
      obtain ⟨wo, hwo⟩ : ∃ wo : World, wo = wr := ⟨_, rfl⟩
      subst hwo
      go_wp2_with fail
      go_loopw [6] (fun i wr => ∃ j : Nat, j ≤ n ∧ i = .int .i64 ((j : Int) + 1) ∧ (∀ (i : Nat) x y, i < j → l[i]? = some x → l[i + 1]? = some y → x.1.id < y.1.id) ∧ Below wo.heap.size wo wr) (fun i _ => n + 1 - (intOf i).toNat)
      case atStart => exact ⟨0, Nat.zero_le _, rfl, fun i x y h => absurd h (by omega), Below.refl _ _⟩
      case round =>
        obtain ⟨j, hj, rfl, hno, hb⟩ := hrel
        have HNO : Hid (∀ (i : Nat) x y, i < j → l[i]? = some x → l[i + 1]? = some y → x.1.id < y.1.id) := hno
        clear hno
        by_cases hlj : j + 1 < n
        · obtain ⟨x, hx⟩ : ∃ r, l[j]? = some r := ⟨l[j]'(by have := HN.out; omega), List.getElem?_eq_getElem _⟩
          obtain ⟨y, hy⟩ : ∃ r, l[j + 1]? = some r := ⟨l[j + 1]'(by have := HN.out; omega), List.getElem?_eq_getElem _⟩
          rcases HI.out with e | ⟨b', off', er, hat⟩
          · rw [e] at hx; simp at hx
          have bw := (HX.out wr hb).1
          have x0 := cell_regrown ((hat.keep bw).cells hx).1
          have y0 := cell_regrown ((hat.keep bw).cells hy).1
          rw [er]
          have g : (j : Int) + 1 < n := by omega
          have g1 : (0 : Int) ≤ (j : Int) + 1 := by omega
          have g2 : (0 : Int) ≤ j := by omega
          have g3 : (j : Int) < n := by omega
          have hw : IntKind.i64.wrap ((j : Int) + 1 - 1) = (j : Int) := by rw [IntKind.wrap_i64]; omega
          have hw' : IntKind.i64.wrap (j : Int) = (j : Int) := by rw [IntKind.wrap_i64]; omega
          have HXX : Hid (l[j]? = some x) := hx
          have HYY : Hid (l[j + 1]? = some y) := hy
          clear hx hy hat er bw
          have HID3 : Hid ((¬ x.1.id < y.1.id → riseF (l.map Prod.fst) = false) ∧ (x.1.id < y.1.id → ∀ (i : Nat) u v, i < j + 1 → l[i]? = some u → l[i + 1]? = some v → u.1.id < v.1.id)) := ⟨fun h => rise_no HXX.out HYY.out h, fun h i u v hi hu hv => by
            by_cases e : i = j
            · subst e
              rw [HXX.out] at hu
              rw [HYY.out] at hv
              obtain rfl := Option.some.inj hu
              obtain rfl := Option.some.inj hv
              exact h
            · exact HNO.out i u v (by omega) hu hv⟩
          clear HXX HYY HNO
          generalize x.1.id = xi at *
          generalize y.1.id = yi at *
          by_cases c : yi ≤ xi
          · have HR : Hid (1 = Z) := by have z := hZ.out; rw [if_pos (HID3.out.1 (by omega))] at z; exact z
            have c' : decide (yi ≤ xi) = true := by simpa using c
            clear HID3 hZ
            go_wp2_with fail
            refine wp_region_quiet_below (by kernel_rfl) (by kernel_rfl) ?_
            repeat (go_big_quiet_step (fail))
            refine wpQuiet_nil ?_
            intro w2 hw2
            have hbb : Below wo.heap.size wo w2 := by
              obtain ⟨⟨d, os⟩, rfl⟩ := hw2
              exact hb.trans ((below_regrown wr d os).mono hb.size)
            clear x0 y0 hw2 hb
            have BB := (HX.out w2 hbb).1
            go_wp2_with fail
            go_ret
            exact ⟨ret_int HR.out, BB⟩
          · have HF : Hid (∀ (i : Nat) u v, i < j + 1 → l[i]? = some u → l[i + 1]? = some v → u.1.id < v.1.id) := HID3.out.2 (by omega)
            have c' : decide (yi ≤ xi) = false := by simpa using c
            clear HID3
            go_wp2_with fail
            refine wp_region_quiet_below (by kernel_rfl) (by kernel_rfl) ?_
            repeat (go_big_quiet_step (fail))
            refine wpQuiet_nil ?_
            intro w2 hw2
            have hbb : Below wo.heap.size wo w2 := by
              obtain ⟨⟨d, os⟩, rfl⟩ := hw2
              exact hb.trans ((below_regrown wr d os).mono hb.size)
            clear x0 y0 hw2 hb
            go_wp2_with fail
            go_roundw
            case rel => exact ⟨j + 1, by omega, by go_num, HF.out, hbb⟩
            case measure => simp [intOf]; omega
        · have hri : riseF (l.map Prod.fst) = true := riseF_yes fun i x y hx hy => HNO.out i x y (by have := (List.getElem?_eq_some_iff.1 hy).1; have := HN.out; omega) hx hy
          rw [hri, if_neg (by decide)] at hZ
          have g : ¬ (j : Int) + 1 < n := by omega
          have HB2 : Hid (Below wo.heap.size wo wr) := hb
          clear HNO hri hb
          obtain ⟨wp, hwp⟩ : ∃ wp : World, wp = wr := ⟨_, rfl⟩
          subst hwp
          go_wp2_with fail
          go_loopw [7] (fun i wr => ∃ k : Nat, k ≤ n ∧ i = .int .i64 k ∧ (∀ (i j : Nat) x y, i < k → j < i → l[i]? = some x → l[j]? = some y → x.1.key ≠ y.1.key) ∧ Below wo.heap.size wo wr) (fun i _ => n - (intOf i).toNat)
          case atStart => exact ⟨0, Nat.zero_le _, rfl, fun i j x y h => absurd h (by omega), HB2.out⟩
          case round =>
            obtain ⟨k2, hk2, rfl, hno, hb⟩ := hrel
            have HNO : Hid (∀ (i j : Nat) x y, i < k2 → j < i → l[i]? = some x → l[j]? = some y → x.1.key ≠ y.1.key) := hno
            have HB : Hid (Below wo.heap.size wo wr) := hb
            clear hno hb HB2
            by_cases hlt2 : k2 < n
            · obtain ⟨x, hx⟩ : ∃ r, l[k2]? = some r := ⟨l[k2]'(by have := HN.out; omega), List.getElem?_eq_getElem _⟩
              have HXX : Hid (l[k2]? = some x) := hx
              clear hx
              have gk : (k2 : Int) < n := by omega
              have gk0 : (0 : Int) ≤ k2 := by omega
              go_wp2_with fail
              obtain ⟨wq, hwq⟩ : ∃ wq : World, wq = wr := ⟨_, rfl⟩
              subst hwq
              go_loopw [8] (fun i wr => ∃ m2 : Nat, m2 ≤ k2 ∧ i = .int .i64 m2 ∧ (∀ (j : Nat) y, j < m2 → l[j]? = some y → x.1.key ≠ y.1.key) ∧ Below wo.heap.size wo wr) (fun i _ => k2 - (intOf i).toNat)
              case atStart => exact ⟨0, Nat.zero_le _, rfl, fun j y h => absurd h (by omega), HB.out⟩
              case round =>
                obtain ⟨m2, hm2, rfl, hnj, hb⟩ := hrel
                have HNJ : Hid (∀ (j : Nat) y, j < m2 → l[j]? = some y → x.1.key ≠ y.1.key) := hnj
                clear hnj HB
                by_cases hlm : m2 < k2
                · obtain ⟨y, hy⟩ : ∃ r, l[m2]? = some r := ⟨l[m2]'(by have := HN.out; omega), List.getElem?_eq_getElem _⟩
                  have hx := HXX.out
                  rcases HI.out with e | ⟨b', off', er, hat⟩
                  · rw [e] at hy; simp at hy
                  have bw := (HX.out wr hb).1
                  have x0 := cell_regrown ((hat.keep bw).cells hx).2.1
                  have y0 := cell_regrown ((hat.keep bw).cells hy).2.1
                  rw [er]
                  have gm : (m2 : Int) < n := by omega
                  have gmk : (m2 : Int) < k2 := by omega
                  have gm0 : (0 : Int) ≤ m2 := by omega
                  have HYY : Hid (l[m2]? = some y) := hy
                  have HBAD : Hid (x.1.key.toList = y.1.key.toList → keysR (l.map Prod.fst) = false) := fun h => keysR_no hlm HXX.out HYY.out (bt_inj h)
                  have HSUC : Hid (x.1.key.toList ≠ y.1.key.toList → ∀ (j : Nat) z, j < m2 + 1 → l[j]? = some z → x.1.key ≠ z.1.key) := fun h j z hj hz => by
                    by_cases e : j = m2
                    · subst e
                      rw [HYY.out] at hz
                      obtain rfl := Option.some.inj hz
                      exact fun e2 => h (by rw [e2])
                    · exact HNJ.out j z (by omega) hz
                  clear hx hy hat er bw HYY
                  by_cases he : x.1.key.toList = y.1.key.toList
                  · have HR : Hid (6 = Z) := by have z := hZ.out; rw [HBAD.out he] at z; exact z
                    have he2 : (x.1.key.toList == y.1.key.toList) = true := by simpa using he
                    clear HBAD HSUC he hZ HNJ
                    generalize x.1.key = kx at *
                    generalize y.1.key = ky at *
                    go_wp2_with fail
                    refine wp_region_quiet_below (by kernel_rfl) (by kernel_rfl) ?_
                    repeat (go_big_quiet_step (fail))
                    refine wpQuiet_nil ?_
                    intro w2 hw2
                    have hbb : Below wo.heap.size wo w2 := by
                      obtain ⟨⟨d, os⟩, rfl⟩ := hw2
                      exact hb.trans ((below_regrown wr d os).mono hb.size)
                    clear x0 y0 hw2 hb
                    have BB := (HX.out w2 hbb).1
                    go_wp2_with fail
                    go_ret
                    exact ⟨ret_int HR.out, BB⟩
                  · have HS2 := HSUC.out he
                    have HS3 : Hid (∀ (j : Nat) z, j < m2 + 1 → l[j]? = some z → x.1.key ≠ z.1.key) := HS2
                    have he2 : (x.1.key.toList == y.1.key.toList) = false := by simpa using he
                    clear HBAD HSUC he HNJ HS2
                    go_wp2_with fail
                    refine wp_region_quiet_below (by kernel_rfl) (by kernel_rfl) ?_
                    repeat (go_big_quiet_step (fail))
                    refine wpQuiet_nil ?_
                    intro w2 hw2
                    have hbb : Below wo.heap.size wo w2 := by
                      obtain ⟨⟨d, os⟩, rfl⟩ := hw2
                      exact hb.trans ((below_regrown wr d os).mono hb.size)
                    clear x0 y0 hw2 hb
                    go_wp2_with fail
                    go_roundw
                    case rel => exact ⟨m2 + 1, by omega, by go_num, HS3.out, hbb⟩
                    case measure => simp [intOf]; omega
                · have HF : Hid (∀ (i j : Nat) x y, i < k2 + 1 → j < i → l[i]? = some x → l[j]? = some y → x.1.key ≠ y.1.key) := fun i j u v hi hj hu hv => by
                    by_cases e : i = k2
                    · subst e
                      rw [HXX.out] at hu
                      obtain rfl := Option.some.inj hu
                      exact HNJ.out j v (by omega) hv
                    · exact HNO.out i j u v (by omega) hj hu hv
                  clear HNJ
                  go_wp2_with fail
                  go_roundw
                  case rel => exact ⟨k2 + 1, by omega, by go_num, HF.out, hb⟩
                  case measure => simp [intOf]; omega
            · have hke : keysR (l.map Prod.fst) = true := keysR_yes fun i j x y hj hx hy => HNO.out i j x y (by have := (List.getElem?_eq_some_iff.1 hx).1; have := HN.out; omega) hj hx hy
              rw [hke, Bool.true_and] at hZ
              have HXX := HX.out wr HB.out
              have HTW : Hid (Calls Tryz.prog 69 #[.slice va m vc] wr fun e w' => e = .returned (.bool (!nodR (allWr (l.map Prod.fst)))) ∧ Below wr.heap.size wr w') := by
                have z := l12Twice_any wr va vc (allWr (l.map Prod.fst)) (by rw [HML.out]; omega) HXX.2
                rw [HML.out] at z
                exact z
              have HBW : Hid (Below w.heap.size w wr) := HXX.1
              clear HNO hke HXX
              go_wp2_with fail
              refine HTW.out.mono ?_
              rintro e0 w9 ⟨rfl, hb9⟩
              have B9 : Hid (Below w.heap.size w w9) := HBW.out.trans (hb9.mono HBW.out.size)
              clear hb9 HTW HBW
              generalize nodR (allWr (l.map Prod.fst)) = nd at *
              cases nd
              · have HR : Hid (6 = Z) := hZ.out
                clear hZ
                go_wp2_with fail
                go_ret
                exact ⟨ret_int HR.out, B9.out⟩
              · have HR : Hid (0 = Z) := hZ.out
                clear hZ
                go_wp2_with fail
                go_ret
                exact ⟨ret_int HR.out, B9.out⟩
end Go.Proofs.YtgejegmilkmiiaaGreatDoor
/-
  The fault of a list of flights, by the program.
-/
namespace Go.Proofs.YtgejegmilkmiiaaGreatDoor
open Go.ChangeShapes Go.WideShapes Go.ChangeAt Go.RowKit Go.Sort
set_option maxRecDepth 100000 in
set_option maxHeartbeats 8000000 in
theorem implFls_any (E : Errs) (w : World) (a : Option Addr) (cap : Nat) (l : List (Fl × FlR)) (hf : ∀ q ∈ l, FlFit q.1) (hl : l.length ≤ 1048576) (hset : SetIs w) (hE : ErrsIs w E) (hi : FlsIn w a l) :
    Calls Tryz.prog 26 #[.slice a l.length cap] w fun e w' => e = .returned (.int .i64 (flsC (l.map Prod.fst))) ∧ Below w.heap.size w w' := by
  have HI : Hid (FlsIn w a l) := hi
  have HFT : Hid (∀ q ∈ l, FlFit q.1) := hf
  have HSE : Hid (SetIs w ∧ ErrsIs w E) := ⟨hset, hE⟩
  have HRI : Hid (l.length ≤ 24 → ∀ X, Below w.heap.size w X → Calls Tryz.prog 77 #[.slice a l.length cap] X fun e w' => e = .returned (.bool (riseF (l.map Prod.fst))) ∧ Below X.heap.size X w') := fun h X hX => doRise_any X a cap l h (hi.keep hX)
  have HAP : Hid (l.length ≤ 24 → firstC (l.map Prod.fst) = 0 → riseF (l.map Prod.fst) = true → ∀ X, Below w.heap.size w X → Calls Tryz.prog 67 #[.slice a l.length cap] X fun e w' => e = .returned (.bool (keysR (l.map Prod.fst) && nodR (allWr (l.map Prod.fst)))) ∧ Below X.heap.size X w') := fun h h0 hr X hX => by
    have z := areApart_any X a cap l h (fun q hq => by
      have c := flC_zero (firstC_zero h0 q.1 (List.mem_map_of_mem hq))
      exact ⟨c.2.2.2.2.2.2.1, sgsOk_of c.1 (by have := c.2.2.2.1; omega) c.2.2.2.2.2.2.2.1⟩) (hi.keep hX)
    rw [tab_all _ hr] at z
    exact z
  obtain ⟨Z, hZ⟩ : ∃ Z, Hid (flsC (l.map Prod.fst) = Z) := ⟨_, rfl⟩
  rw [hZ.out]
  unfold flsC at hZ
  rw [List.length_map] at hZ
  clear hi hf hset hE
  generalize hn : l.length = n at *
  have HN : Hid (l.length = n) := hn
  clear hn
  by_cases c0 : (24 : Int) < n
  · have HR : Hid (2 = Z) := by have z := hZ.out; rw [if_pos (by omega)] at z; exact z
    clear hZ
    go_enter Tryz.func26, Tryz.ntmps26
    go_wp2_with fail
    go_ret
    exact ⟨ret_int HR.out, Below.refl _ _⟩
  rw [if_neg (by omega)] at hZ
  have HRI2 := HRI.out (by omega)
  have HRI3 : Hid (∀ X, Below w.heap.size w X → Calls Tryz.prog 77 #[.slice a n cap] X fun e w' => e = .returned (.bool (riseF (l.map Prod.fst))) ∧ Below X.heap.size X w') := HRI2
  have HAP2 := HAP.out (by omega)
  have HAP3 : Hid (firstC (l.map Prod.fst) = 0 → riseF (l.map Prod.fst) = true → ∀ X, Below w.heap.size w X → Calls Tryz.prog 67 #[.slice a n cap] X fun e w' => e = .returned (.bool (keysR (l.map Prod.fst) && nodR (allWr (l.map Prod.fst)))) ∧ Below X.heap.size X w') := HAP2
  clear HRI HAP HRI2 HAP2
  go_enter Tryz.func26, Tryz.ntmps26
  go_wp2_with fail
  go_loopw [11] (fun i wr => ∃ k : Nat, k ≤ n ∧ i = .int .i64 k ∧ firstC (l.map Prod.fst) = firstC ((l.map Prod.fst).drop k) ∧ Below w.heap.size w wr) (fun i _ => n - (intOf i).toNat)
  case atStart => exact ⟨0, Nat.zero_le _, rfl, rfl, Below.refl _ _⟩
  case round =>
    obtain ⟨k, hk, rfl, hfc, hb⟩ := hrel
    have HFC : Hid (firstC (l.map Prod.fst) = firstC ((l.map Prod.fst).drop k)) := hfc
    clear hfc
    by_cases hlt : k < n
    · obtain ⟨q, hq⟩ : ∃ q, l[k]? = some q := ⟨l[k]'(by have := HN.out; omega), List.getElem?_eq_getElem _⟩
      rcases HI.out with e | ⟨b1, o1, er, hat⟩
      · rw [e] at hq; simp at hq
      have PC := (hat.keep hb).cells hq
      have PI := (hat.keep hb).in hq
      have ft := HFT.out q (List.mem_of_getElem? hq)
      rw [er]
      have g : (k : Int) < n := by omega
      have g0 : (0 : Int) ≤ k := by omega
      have HD : Hid (firstC (l.map Prod.fst) = if flC q.1 ≠ 0 then flC q.1 else firstC ((l.map Prod.fst).drop (k + 1))) := by show _ = _; rw [HFC.out, firstC_drop hq]
      have HB : Hid (Below w.heap.size w wr) := hb
      have HC : Hid (∀ X, Below wr.heap.size wr X → Calls Tryz.prog 18 #[.agg #[.int .i64 q.1.id, .string q.1.key, .bool q.1.bk, .bool q.1.ot, .int .i64 q.1.du, .bool q.1.dm, .string q.1.m, .string q.1.h, .string q.1.p, .slice q.2.ha q.1.hs.length q.2.hc, .slice q.2.wa q.1.ws.length q.2.wc]] X fun e w' => e = .returned (.int .i64 (flC q.1)) ∧ Below X.heap.size X w') := fun X hX => by
        have bX := HB.out.trans (hX.mono HB.out.size)
        exact implFl_any E X q.1 q.2 ft (HSE.out.1.below bX) (HSE.out.2.below bX) (PI.keep hX)
      have p0 := PC.1
      have p1 := PC.2.1
      have p2 := PC.2.2.1
      have p3 := PC.2.2.2.1
      have p4 := PC.2.2.2.2.1
      have p5 := PC.2.2.2.2.2.1
      have p6 := PC.2.2.2.2.2.2.1
      have p7 := PC.2.2.2.2.2.2.2.1
      have p8 := PC.2.2.2.2.2.2.2.2.1
      have p9 := PC.2.2.2.2.2.2.2.2.2.1
      have p10 := PC.2.2.2.2.2.2.2.2.2.2
      clear PC PI hq hat hb er ft HFC
      generalize flC q.1 = fc at *
      obtain ⟨⟨id, key, bk, ot, du, dm, mt, ho, pa, hs, ws⟩, ⟨ha, hc, wa, wc⟩⟩ := q
      simp only at p0 p1 p2 p3 p4 p5 p6 p7 p8 p9 p10 HC
      generalize hs.length = hl at *
      generalize ws.length = wn at *
      obtain ⟨W2, hW2⟩ : ∃ X, X = wr.alloc (.cells #[.int .i64 id, .string key, .bool bk, .bool ot, .int .i64 du, .bool dm, .string mt, .string ho, .string pa, .slice ha hl hc, .slice wa wn wc] 29) := ⟨_, rfl⟩
      have HW2 : Hid (W2 = wr.alloc (.cells #[.int .i64 id, .string key, .bool bk, .bool ot, .int .i64 du, .bool dm, .string mt, .string ho, .string pa, .slice ha hl hc, .slice wa wn wc] 29)) := hW2
      have B2 : Hid (Below wr.heap.size wr W2) := by show Below _ _ _; rw [hW2]; exact (Below.refl _ _).alloc (Nat.le_refl _) _
      clear hW2
      go_wp2_with fail
      rw [← HW2.out]
      clear HW2 p0 p1 p2 p3 p4 p5 p6 p7 p8 p9 p10
      refine (HC.out _ B2.out).mono ?_
      rintro e0 w3 ⟨rfl, hb3⟩
      have B3 : Hid (Below w.heap.size w w3) := HB.out.trans ((B2.out.trans (hb3.mono B2.out.size)).mono HB.out.size)
      clear hb3 B2 HB HC
      by_cases c3 : fc = 0
      rotate_left
      · have HR : Hid (fc = Z) := by have z := hZ.out; rw [HD.out, if_pos c3, if_pos c3] at z; exact z
        have c3' : (fc != 0) = true := by simpa using c3
        clear hZ HD c3
        go_wp2_with fail
        go_ret
        exact ⟨ret_int HR.out, B3.out⟩
      subst c3
      have HD2 : Hid (firstC (l.map Prod.fst) = firstC ((l.map Prod.fst).drop (k + 1))) := by have z := HD.out; rw [if_neg (by simp)] at z; exact z
      clear HD
      go_wp2_with fail
      go_roundw
      case rel => exact ⟨k + 1, by omega, by go_num, HD2.out, B3.out⟩
      case measure => simp [intOf]; omega
    · have h0 : firstC (l.map Prod.fst) = 0 := by
        rw [HFC.out, List.drop_of_length_le (by have := HN.out; simp; omega)]
        rfl
      rw [h0, if_neg (by simp)] at hZ
      have HAP4 := HAP3.out h0
      have HAP5 : Hid (riseF (l.map Prod.fst) = true → ∀ X, Below w.heap.size w X → Calls Tryz.prog 67 #[.slice a n cap] X fun e w' => e = .returned (.bool (keysR (l.map Prod.fst) && nodR (allWr (l.map Prod.fst)))) ∧ Below X.heap.size X w') := HAP4
      have HB : Hid (Below w.heap.size w wr) := hb
      clear HFC HAP3 HAP4 h0 hb
      go_wp2_with fail
      refine (HRI3.out _ HB.out).mono ?_
      rintro e0 w4 ⟨rfl, hb4⟩
      have B4 : Hid (Below w.heap.size w w4) := HB.out.trans (hb4.mono HB.out.size)
      clear hb4 HB HRI3
      generalize riseF (l.map Prod.fst) = ri at *
      cases ri
      · have HR : Hid (1 = Z) := hZ.out
        clear hZ HAP5
        go_wp2_with fail
        go_ret
        exact ⟨ret_int HR.out, B4.out⟩
      have HAP6 := HAP5.out rfl
      have HAP7 : Hid (∀ X, Below w.heap.size w X → Calls Tryz.prog 67 #[.slice a n cap] X fun e w' => e = .returned (.bool (keysR (l.map Prod.fst) && nodR (allWr (l.map Prod.fst)))) ∧ Below X.heap.size X w') := HAP6
      clear HAP5 HAP6
      go_wp2_with fail
      refine (HAP7.out _ B4.out).mono ?_
      rintro e0 w5 ⟨rfl, hb5⟩
      have B5 : Hid (Below w.heap.size w w5) := B4.out.trans (hb5.mono B4.out.size)
      clear hb5 B4 HAP7
      generalize (keysR (l.map Prod.fst) && nodR (allWr (l.map Prod.fst))) = ap at *
      cases ap
      · have HR : Hid (6 = Z) := hZ.out
        clear hZ
        go_wp2_with fail
        go_ret
        exact ⟨ret_int HR.out, B5.out⟩
      · have HR : Hid (0 = Z) := hZ.out
        clear hZ
        go_wp2_with fail
        go_ret
        exact ⟨ret_int HR.out, B5.out⟩
end Go.Proofs.YtgejegmilkmiiaaGreatDoor
/-
  Lists of flights that were copied.
-/
namespace Go.Proofs.YtgejegmilkmiiaaGreatDoor
open Go.ChangeShapes Go.WideShapes Go.ChangeAt Go.RowKit Go.Sort
/-- A list of flights that was copied. -/
def FlsNew (W : World) (G : Nat) (l : List (Fl × FlR)) : Prop := ∃ l', l'.map Prod.fst = l.map Prod.fst ∧ FlsMine W G l'
theorem FlsNew.keep {W W' : World} {G : Nat} {l : List (Fl × FlR)} (h : FlsNew W G l) (hb : Below W.heap.size W W') : FlsNew W' G l := by
  obtain ⟨l', e, m⟩ := h
  exact ⟨l', e, m.keep hb⟩
theorem flen_map {l l' : List (Fl × FlR)} (h : l'.map Prod.fst = l.map Prod.fst) : l'.length = l.length := by simpa using congrArg List.length h
theorem ffit_map {l l' : List (Fl × FlR)} (h : l'.map Prod.fst = l.map Prod.fst) (hf : ∀ q ∈ l, FlFit q.1) : ∀ q ∈ l', FlFit q.1 := fun q hq => by
  have : q.1 ∈ l.map Prod.fst := h ▸ List.mem_map_of_mem hq
  obtain ⟨q', hq', e⟩ := List.mem_map.1 this
  rw [← e]
  exact hf q' hq'
theorem eqFls_new (w : World) (l : List (Fl × FlR)) (G1 G2 : Nat) (hl : l.length ≤ 1048576) (hf : ∀ q ∈ l, FlFit q.1) (h : FlsNew w G1 l) (k : FlsNew w G2 l) :
    Calls Tryz.prog 34 #[.slice (some ⟨G1, 0, none⟩) l.length l.length, .slice (some ⟨G2, 0, none⟩) l.length l.length] w fun e w' => e = .returned (.bool true) ∧ Below w.heap.size w w' := by
  obtain ⟨a, e1, h⟩ := h
  obtain ⟨b, e2, k⟩ := k
  rw [← flen_map e1]
  exact eqFlightS_same w _ _ _ _ a b (by rw [flen_map e1]; exact hl) (ffit_map e1 hf) (e1.trans e2.symm) h.in k.in
theorem hidF {p : Prop} (h : p) : Hid p := h
end Go.Proofs.YtgejegmilkmiiaaGreatDoor
