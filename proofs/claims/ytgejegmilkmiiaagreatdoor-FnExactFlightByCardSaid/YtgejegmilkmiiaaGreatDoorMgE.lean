/-
  Texts of one claim, one behind the other.
-/
import Derived.Test.YtgejegmilkmiiaaGreatDoorMgD
/-
  Where a sign stands in a list of flights, plainly.
-/
namespace Go.Proofs.YtgejegmilkmiiaaGreatDoor
open Go.ChangeShapes Go.WideShapes Go.ChangeAt Go.RowKit Go.Sort
def hasS (l : List Sg) (y : Sg) : Bool := l.any (sgEq y)
theorem hasS_iff {l : List Sg} {y : Sg} : hasS l y = true ↔ y ∈ l := by
  unfold hasS
  rw [List.any_eq_true]
  exact ⟨fun ⟨x, hx, e⟩ => by have q := sgEq_iff.1 e; subst q; exact hx, fun h => ⟨y, h, sgEq_iff.2 rfl⟩⟩
theorem tabS_val (k : Nat) : ∀ (l : List Sg) (p : Sg → Option Nat) (a : Bool) (y : Sg), (tabS k l p a).1 y = if hasS l y = true then some k else p y
  | [], p, a, y => by simp [tabS, hasS]
  | s :: l, p, a, y => by
    rw [tabS, tabS_val k l]
    have e : hasS (s :: l) y = (sgEq y s || hasS l y) := rfl
    rw [e]
    cases hasS l y <;> cases sgEq y s <;> simp
/-- The first flight that is known by a sign. -/
def idxS (y : Sg) : Nat → List Fl → Option Nat
  | _, [] => none
  | k, x :: l => if hasS (signsF x) y = true then some k else idxS y (k + 1) l
theorem idxS_none (y : Sg) : ∀ (l : List Fl) (k : Nat), y ∉ allSg l → idxS y k l = none
  | [], _, _ => rfl
  | x :: l, k, h => by
    have e : allSg (x :: l) = signsF x ++ allSg l := rfl
    rw [e, List.mem_append] at h
    rw [idxS, if_neg (fun q => h (.inl (hasS_iff.1 q))), idxS_none y l (k + 1) (fun q => h (.inr q))]
theorem tabF_val (y : Sg) : ∀ (l : List Fl) (k : Nat) (p : Sg → Option Nat) (a : Bool), (allSg l).Nodup → (tabF k l p a).1 y = match idxS y k l with | some i => some i | none => p y
  | [], _, _, _, _ => rfl
  | x :: l, k, p, a, h => by
    have e : allSg (x :: l) = signsF x ++ allSg l := rfl
    rw [e, List.nodup_append] at h
    rw [tabF, tabF_val y l (k + 1) _ _ h.2.1, tabS_val, idxS]
    by_cases c : hasS (signsF x) y = true
    · rw [if_pos c, if_pos c, idxS_none y l (k + 1) (fun q => h.2.2 y (hasS_iff.1 c) y q rfl)]
    · rw [if_neg c, if_neg c]
theorem flsC_zero {l : List Fl} (h : flsC l = 0) : l.length ≤ 24 ∧ firstC l = 0 ∧ riseF l = true ∧ (keysR l && nodR (allWr l)) = true := by
  unfold flsC at h
  split at h
  · cases h
  · rename_i h1
    split at h
    · rename_i h2; exact absurd h h2
    · rename_i h2
      split at h
      · cases h
      · rename_i h3
        split at h
        · cases h
        · rename_i h4
          exact ⟨by omega, by simpa using h2, by simpa using h3, by simpa using h4⟩
theorem tab_place {l : List Fl} (h : flsC l = 0) (y : Sg) : (tabF 0 l none3 true).1 y = idxS y 0 l := by
  obtain ⟨_, _, hr, hk⟩ := flsC_zero h
  have hn : (allSg l).Nodup := ((tabF_iff l 0 none3 true).1 (by rw [tab_all l hr]; exact hk)).2.1
  rw [tabF_val y l 0 none3 true hn]
  cases idxS y 0 l <;> rfl
theorem hasS_key (x : Fl) (key : ByteArray) : hasS (signsF x) ⟨1, 0, key⟩ = decide (x.key = key) := by
  cases h : hasS (signsF x) ⟨1, 0, key⟩ with
  | true =>
    have m := hasS_iff.1 h
    unfold signsF at m
    rcases List.mem_cons.1 m with e | m
    · have := congrArg Sg.kd e; simp at this
    · rcases List.mem_cons.1 m with e | m
      · have := congrArg Sg.tx e
        simp at this
        simp [this]
      · obtain ⟨y, _, e⟩ := List.mem_map.1 m
        have := congrArg Sg.kd e
        simp [wSign] at this
  | false =>
    symm
    rw [decide_eq_false_iff_not]
    intro e
    subst e
    rw [← Bool.not_eq_true, hasS_iff] at h
    exact h (by unfold signsF; simp)
theorem hasS_id (x : Fl) (id : Int) : hasS (signsF x) ⟨0, id, ⟨#[]⟩⟩ = decide (x.id = id) := by
  cases h : hasS (signsF x) ⟨0, id, ⟨#[]⟩⟩ with
  | true =>
    have m := hasS_iff.1 h
    unfold signsF at m
    rcases List.mem_cons.1 m with e | m
    · have := congrArg Sg.nm e
      simp at this
      simp [this]
    · rcases List.mem_cons.1 m with e | m
      · have := congrArg Sg.kd e; simp at this
      · obtain ⟨y, _, e⟩ := List.mem_map.1 m
        have := congrArg Sg.kd e
        simp [wSign] at this
  | false =>
    symm
    rw [decide_eq_false_iff_not]
    intro e
    subst e
    rw [← Bool.not_eq_true, hasS_iff] at h
    exact h (by unfold signsF; simp)
/-- What is told of a place: code and value. -/
def placeR (l : List Fl) (y : Sg) : Int × Int := if flsC l = 0 then (match idxS y 0 l with | some i => (0, (i : Int)) | none => (4, 0)) else (flsC l, 0)
theorem idxS_lt (y : Sg) : ∀ (l : List Fl) (k i : Nat), idxS y k l = some i → k ≤ i ∧ i < k + l.length
  | [], _, _, h => by cases h
  | x :: l, k, i, h => by
    rw [idxS] at h
    split at h
    · obtain rfl := Option.some.inj h
      exact ⟨Nat.le_refl _, by simp⟩
    · obtain ⟨a, b⟩ := idxS_lt y l (k + 1) i h
      exact ⟨by omega, by simp; omega⟩
end Go.Proofs.YtgejegmilkmiiaaGreatDoor
/-
  A flight that is known by a sign, by the program.
-/
namespace Go.Proofs.YtgejegmilkmiiaaGreatDoor
open Go.ChangeShapes Go.WideShapes Go.ChangeAt Go.RowKit Go.Sort
set_option maxRecDepth 100000 in
set_option maxHeartbeats 8000000 in
theorem knownBy_any (E : Errs) (w : World) (a : Option Addr) (cap : Nat) (l : List (Fl × FlR)) (s : Sg) (hs : SgOk s) (hf : ∀ q ∈ l, FlFit q.1) (hl : l.length ≤ 1048576) (hset : SetIs w) (hE : ErrsIs w E) (hi : FlsIn w a l) :
    Calls Tryz.prog 73 #[.slice a l.length cap, .agg #[.int .i64 s.kd, .int .i64 s.nm, .string s.tx]] w fun e w' => e = .returned (.agg #[.int .i64 (placeR (l.map Prod.fst) s).1, .int .i64 (placeR (l.map Prod.fst) s).2]) ∧ Below w.heap.size w w' := by
  obtain ⟨W, hW⟩ : ∃ W, W = (w.alloc (.cells #[.int .i64 s.kd, .int .i64 s.nm, .string s.tx] 116)).alloc (.cells #[.int .i64 0, .int .i64 0] 47) := ⟨_, rfl⟩
  have HW : Hid (W = (w.alloc (.cells #[.int .i64 s.kd, .int .i64 s.nm, .string s.tx] 116)).alloc (.cells #[.int .i64 0, .int .i64 0] 47)) := hW
  have B0 : Hid (Below w.heap.size w W) := by show Below _ _ _; rw [hW]; exact ((Below.refl _ _).alloc (Nat.le_refl _) _).alloc (by simp) _
  have HK : Hid (∀ X, Below W.heap.size W X → Below w.heap.size w X ∧ X.cell? ⟨w.heap.size, 0, none⟩ = some (.int .i64 s.kd) ∧ X.cell? ⟨w.heap.size, 1, none⟩ = some (.int .i64 s.nm) ∧ X.cell? ⟨w.heap.size, 2, none⟩ = some (.string s.tx) ∧ X.cell? ⟨w.heap.size + 1, 0, none⟩ = some (.int .i64 0) ∧ X.cell? ⟨w.heap.size + 1, 1, none⟩ = some (.int .i64 0) ∧ X.frozen? ⟨w.heap.size + 1, 0, none⟩ = false ∧ X.frozen? ⟨w.heap.size + 1, 1, none⟩ = false) := fun X hX => by
    have hs0 : w.heap.size < W.heap.size := by rw [hW]; simp; omega
    have hs1 : w.heap.size + 1 < W.heap.size := by rw [hW]; simp
    refine ⟨B0.out.trans (hX.mono B0.out.size), ?_, ?_, ?_, ?_, ?_, ?_, ?_⟩
    · rw [hX.cell (p := ⟨w.heap.size, 0, none⟩) hs0, hW]; simp
    · rw [hX.cell (p := ⟨w.heap.size, 1, none⟩) hs0, hW]; simp
    · rw [hX.cell (p := ⟨w.heap.size, 2, none⟩) hs0, hW]; simp
    · rw [hX.cell (p := ⟨w.heap.size + 1, 0, none⟩) hs1, hW]; simp
    · rw [hX.cell (p := ⟨w.heap.size + 1, 1, none⟩) hs1, hW]; simp
    · rw [hX.frozen (p := ⟨w.heap.size + 1, 0, none⟩) hs1, hW]; simp
    · rw [hX.frozen (p := ⟨w.heap.size + 1, 1, none⟩) hs1, hW]; simp
  have HFF : Hid (∀ X, Below w.heap.size w X → Calls Tryz.prog 26 #[.slice a l.length cap] X fun e w' => e = .returned (.int .i64 (flsC (l.map Prod.fst))) ∧ Below X.heap.size X w') := fun X hX => implFls_any E X a cap l hf hl (hset.below hX) (hE.below hX) (hi.keep hX)
  have HTB : Hid (flsC (l.map Prod.fst) = 0 → ∀ X, Below w.heap.size w X → Calls Tryz.prog 99 #[.slice a l.length cap] X fun e w' => (∃ M b, e = .returned (.tuple #[.map (some M), .bool b]) ∧ SgsMap w' M 1000 (fun y => idxS y 0 (l.map Prod.fst))) ∧ Below X.heap.size X w') := fun h0 X hX => by
    obtain ⟨z1, z2, _, _⟩ := flsC_zero h0
    have z := flightTable_any X a cap l (by simpa using z1) (fun q hq => by
      have c := flC_zero (firstC_zero z2 q.1 (List.mem_map_of_mem hq))
      exact ⟨c.2.2.2.2.2.2.1, sgsOk_of c.1 (by have := c.2.2.2.1; omega) c.2.2.2.2.2.2.2.1⟩) (hi.keep hX)
    refine z.mono fun e w' ⟨⟨M, q1, q2, _⟩, q3⟩ => ⟨⟨M, _, q1, q2.of fun y => tab_place h0 y⟩, q3⟩
  have HLT : Hid (∀ i, idxS s 0 (l.map Prod.fst) = some i → i < l.length) := fun i h => by have z := (idxS_lt s _ 0 i h).2; simpa using z
  have HOK : Hid (SgOk s) := hs
  obtain ⟨Z1, hZ1⟩ : ∃ Z, Hid ((placeR (l.map Prod.fst) s).1 = Z) := ⟨_, rfl⟩
  obtain ⟨Z2, hZ2⟩ : ∃ Z, Hid ((placeR (l.map Prod.fst) s).2 = Z) := ⟨_, rfl⟩
  rw [hZ1.out, hZ2.out]
  unfold placeR at hZ1 hZ2
  clear hW hi hf hset hE hs B0
  generalize hP : (fun y => idxS y 0 (l.map Prod.fst)) = P0 at *
  have HPS : Hid (P0 s = idxS s 0 (l.map Prod.fst)) := by show _ = _; rw [← hP]
  clear hP
  rw [← HPS.out] at hZ1 hZ2 HLT
  generalize flsC (l.map Prod.fst) = fc at *
  generalize l.length = n at *
  obtain ⟨kd, nm, tx⟩ := s
  simp only at HW HK
  go_enter Tryz.func73, Tryz.ntmps73
  go_wp2_with fail
  rw [← HW.out]
  clear HW
  refine (HFF.out _ (HK.out W (Below.refl _ _)).1).mono ?_
  rintro e0 w1 ⟨rfl, hb1⟩
  have HK1 : Hid (∀ X, Below w1.heap.size w1 X → Below W.heap.size W X) := fun X hX => hb1.trans (hX.mono hb1.size)
  clear hb1 HFF
  obtain ⟨k0, k1, k2, k3, k4, k5, k6, k7⟩ := HK.out w1 (HK1.out _ (Below.refl _ _))
  by_cases c : fc = 0
  rotate_left
  · have c' : (fc != 0) = true := by simpa using c
    have e1 : Hid (fc = Z1 ∧ 0 = Z2) := by have z1 := hZ1.out; have z2 := hZ2.out; rw [if_neg c] at z1 z2; exact ⟨z1, z2⟩
    clear hZ1 hZ2 c HTB
    go_wp2_with fail
    exact bodyPost_ret (v := .agg #[.int .i64 fc, .int .i64 0]) (by simp [results, Tryz.results73, go_sem, k4, k5]) rfl ⟨by rw [← e1.out.1, ← e1.out.2], (k0.setCell (by simp) _).setCell (by simp) _⟩
  subst c
  rw [if_pos rfl] at hZ1 hZ2
  have HT2 := HTB.out rfl w1 k0
  clear HTB k0 k1 k2 k3 k4 k5 k6 k7
  go_wp2_with fail
  refine HT2.mono ?_
  rintro e0 w2 ⟨⟨M, b, rfl, hmap⟩, hb2⟩
  obtain ⟨k0, k1, k2, k3, k4, k5, k6, k7⟩ := HK.out w2 (HK1.out _ hb2)
  clear HK HK1 hb2 HT2
  cases hp : P0 ⟨kd, nm, tx⟩ with
  | none =>
    rw [hp] at hZ1 hZ2
    have e1 : Hid (4 = Z1 ∧ 0 = Z2) := ⟨hZ1.out, hZ2.out⟩
    clear hZ1 hZ2 HLT HPS
    go_wp2_with (at_lookup; refine wpList_lookS_none _ rfl _ _ rfl M 1000 P0 rfl hmap ⟨kd, nm, tx⟩ rfl HOK.out hp ?_)
    exact bodyPost_ret (v := .agg #[.int .i64 4, .int .i64 0]) (by simp [results, Tryz.results73, go_sem, k4, k5]) rfl ⟨by rw [← e1.out.1, ← e1.out.2], (k0.setCell (by simp) _).setCell (by simp) _⟩
  | some i =>
    rw [hp] at hZ1 hZ2
    have e1 : Hid (0 = Z1 ∧ (i : Int) = Z2) := ⟨hZ1.out, hZ2.out⟩
    have hlt := HLT.out i hp
    clear hZ1 hZ2 HLT HPS
    go_wp2_with (at_lookup; refine wpList_lookS_some _ rfl _ _ rfl M 1000 P0 rfl hmap ⟨kd, nm, tx⟩ rfl HOK.out i hp ?_)
    exact bodyPost_ret (v := .agg #[.int .i64 0, .int .i64 (i : Int)]) (by simp [results, Tryz.results73, go_sem, k4, k5]) rfl ⟨by rw [← e1.out.1, ← e1.out.2], (k0.setCell (by simp) _).setCell (by simp) _⟩
end Go.Proofs.YtgejegmilkmiiaaGreatDoor
/-
  A flight that is found, by its key and by its number.
-/
namespace Go.Proofs.YtgejegmilkmiiaaGreatDoor
open Go.ChangeShapes Go.WideShapes Go.ChangeAt Go.RowKit Go.Sort
def atI : Option Nat → Int
  | some i => (i : Int)
  | none => -1
theorem idxS_drop {y : Sg} {l : List (Fl × FlR)} {k : Nat} {q : Fl × FlR} (h : l[k]? = some q) : idxS y k ((l.map Prod.fst).drop k) = if hasS (signsF q.1) y = true then some k else idxS y (k + 1) ((l.map Prod.fst).drop (k + 1)) := by
  obtain ⟨hj, rfl⟩ := List.getElem?_eq_some_iff.1 h
  rw [List.drop_eq_getElem_cons (i := k) (by simpa using hj), idxS]
  simp
set_option maxRecDepth 100000 in
set_option maxHeartbeats 4000000 in
theorem l12Key_any (w : World) (a : Option Addr) (cap : Nat) (l : List (Fl × FlR)) (key : ByteArray) (hl : l.length ≤ 1048576) (hi : FlsIn w a l) :
    Calls Tryz.prog 75 #[.slice a l.length cap, .string key] w fun e w' => e = .returned (.int .i64 (atI (idxS ⟨1, 0, key⟩ 0 (l.map Prod.fst)))) ∧ Below w.heap.size w w' := by
  have HI : Hid (FlsIn w a l) := hi
  obtain ⟨Z, hZ⟩ : ∃ Z, Hid (idxS ⟨1, 0, key⟩ 0 (l.map Prod.fst) = Z) := ⟨_, rfl⟩
  rw [hZ.out]
  clear hi
  generalize hn : l.length = n at *
  have HN : Hid (l.length = n) := hn
  clear hn
  go_enter Tryz.func75, Tryz.ntmps75
  go_wp2_with fail
  go_loopw [5] (fun i wr => ∃ k : Nat, k ≤ n ∧ i = .int .i64 k ∧ idxS ⟨1, 0, key⟩ k ((l.map Prod.fst).drop k) = Z ∧ Below w.heap.size w wr) (fun i _ => n - (intOf i).toNat)
  case atStart => exact ⟨0, Nat.zero_le _, rfl, hZ.out, Below.refl _ _⟩
  case round =>
    obtain ⟨k, hk, rfl, hx, hb⟩ := hrel
    have HX : Hid (idxS ⟨1, 0, key⟩ k ((l.map Prod.fst).drop k) = Z) := hx
    clear hx hZ
    by_cases hlt : k < n
    · obtain ⟨q, hq⟩ : ∃ q, l[k]? = some q := ⟨l[k]'(by have := HN.out; omega), List.getElem?_eq_getElem _⟩
      rcases HI.out with e | ⟨b1, o1, er, hat⟩
      · rw [e] at hq; simp at hq
      have p1 := ((hat.keep hb).cells hq).2.1
      rw [er]
      have g : (k : Int) < n := by omega
      have g0 : (0 : Int) ≤ k := by omega
      have HD : Hid ((if decide (q.1.key = key) = true then some k else idxS ⟨1, 0, key⟩ (k + 1) ((l.map Prod.fst).drop (k + 1))) = Z) := by show _ = Z; rw [← hasS_key, ← idxS_drop hq]; exact HX.out
      clear HX hq hat er
      generalize q.1.key = xk at *
      by_cases he : xk = key
      · have HR : Hid (Z = some k) := by have z := HD.out; rw [if_pos (by simpa using he)] at z; exact z.symm
        subst he
        clear HD
        go_wp2_with fail
        go_ret
        exact ⟨by rw [HR.out]; rfl, hb⟩
      · have HR : Hid (idxS ⟨1, 0, key⟩ (k + 1) ((l.map Prod.fst).drop (k + 1)) = Z) := by have z := HD.out; rw [if_neg (by simpa using he)] at z; exact z
        have he2 : (xk.toList == key.toList) = false := by
          rw [beq_eq_false_iff_ne]
          exact fun e => he (bt_inj e)
        clear HD he
        go_wp2_with fail
        go_roundw
        case rel => exact ⟨k + 1, by omega, by go_num, HR.out, hb⟩
        case measure => simp [intOf]; omega
    · have HR : Hid (Z = none) := by
        have z := HX.out
        rw [List.drop_of_length_le (by have := HN.out; simp; omega)] at z
        exact z.symm
      clear HX
      go_wp2_with fail
      go_ret
      exact ⟨by rw [HR.out]; rfl, hb⟩
set_option maxRecDepth 100000 in
set_option maxHeartbeats 4000000 in
theorem l12Id_any (w : World) (a : Option Addr) (cap : Nat) (l : List (Fl × FlR)) (key : Int) (hl : l.length ≤ 1048576) (hi : FlsIn w a l) :
    Calls Tryz.prog 76 #[.slice a l.length cap, .int .i64 key] w fun e w' => e = .returned (.int .i64 (atI (idxS ⟨0, key, ⟨#[]⟩⟩ 0 (l.map Prod.fst)))) ∧ Below w.heap.size w w' := by
  have HI : Hid (FlsIn w a l) := hi
  obtain ⟨Z, hZ⟩ : ∃ Z, Hid (idxS ⟨0, key, ⟨#[]⟩⟩ 0 (l.map Prod.fst) = Z) := ⟨_, rfl⟩
  rw [hZ.out]
  clear hi
  generalize hn : l.length = n at *
  have HN : Hid (l.length = n) := hn
  clear hn
  go_enter Tryz.func76, Tryz.ntmps76
  go_wp2_with fail
  go_loopw [5] (fun i wr => ∃ k : Nat, k ≤ n ∧ i = .int .i64 k ∧ idxS ⟨0, key, ⟨#[]⟩⟩ k ((l.map Prod.fst).drop k) = Z ∧ Below w.heap.size w wr) (fun i _ => n - (intOf i).toNat)
  case atStart => exact ⟨0, Nat.zero_le _, rfl, hZ.out, Below.refl _ _⟩
  case round =>
    obtain ⟨k, hk, rfl, hx, hb⟩ := hrel
    have HX : Hid (idxS ⟨0, key, ⟨#[]⟩⟩ k ((l.map Prod.fst).drop k) = Z) := hx
    clear hx hZ
    by_cases hlt : k < n
    · obtain ⟨q, hq⟩ : ∃ q, l[k]? = some q := ⟨l[k]'(by have := HN.out; omega), List.getElem?_eq_getElem _⟩
      rcases HI.out with e | ⟨b1, o1, er, hat⟩
      · rw [e] at hq; simp at hq
      have p1 := ((hat.keep hb).cells hq).1
      rw [er]
      have g : (k : Int) < n := by omega
      have g0 : (0 : Int) ≤ k := by omega
      have HD : Hid ((if decide (q.1.id = key) = true then some k else idxS ⟨0, key, ⟨#[]⟩⟩ (k + 1) ((l.map Prod.fst).drop (k + 1))) = Z) := by show _ = Z; rw [← hasS_id, ← idxS_drop hq]; exact HX.out
      clear HX hq hat er
      generalize q.1.id = xk at *
      by_cases he : xk = key
      · have HR : Hid (Z = some k) := by have z := HD.out; rw [if_pos (by simpa using he)] at z; exact z.symm
        subst he
        clear HD
        go_wp2_with fail
        go_ret
        exact ⟨by rw [HR.out]; rfl, hb⟩
      · have HR : Hid (idxS ⟨0, key, ⟨#[]⟩⟩ (k + 1) ((l.map Prod.fst).drop (k + 1)) = Z) := by have z := HD.out; rw [if_neg (by simpa using he)] at z; exact z
        have he2 : (xk == key) = false := by simpa using he
        clear HD he
        go_wp2_with fail
        go_roundw
        case rel => exact ⟨k + 1, by omega, by go_num, HR.out, hb⟩
        case measure => simp [intOf]; omega
    · have HR : Hid (Z = none) := by
        have z := HX.out
        rw [List.drop_of_length_le (by have := HN.out; simp; omega)] at z
        exact z.symm
      clear HX
      go_wp2_with fail
      go_ret
      exact ⟨by rw [HR.out]; rfl, hb⟩
theorem box2 (w : World) : ∀ X, Below (w.alloc (.cells #[.int .i64 0, .int .i64 0] 47)).heap.size (w.alloc (.cells #[.int .i64 0, .int .i64 0] 47)) X → Below w.heap.size w X ∧ X.cell? ⟨w.heap.size, 0, none⟩ = some (.int .i64 0) ∧ X.cell? ⟨w.heap.size, 1, none⟩ = some (.int .i64 0) ∧ X.frozen? ⟨w.heap.size, 0, none⟩ = false ∧ X.frozen? ⟨w.heap.size, 1, none⟩ = false := fun X hX => by
  have al : Below w.heap.size w (w.alloc (.cells #[.int .i64 0, .int .i64 0] 47)) := (Below.refl _ _).alloc (Nat.le_refl _) _
  have hs : w.heap.size < (w.alloc (.cells #[.int .i64 0, .int .i64 0] 47)).heap.size := by simp
  refine ⟨al.trans (hX.mono al.size), ?_, ?_, ?_, ?_⟩
  · rw [hX.cell (p := ⟨w.heap.size, 0, none⟩) hs]; simp
  · rw [hX.cell (p := ⟨w.heap.size, 1, none⟩) hs]; simp
  · rw [hX.frozen (p := ⟨w.heap.size, 0, none⟩) hs]; simp
  · rw [hX.frozen (p := ⟨w.heap.size, 1, none⟩) hs]; simp
def placeA (fc at' : Int) : Int × Int := if fc = 0 then (if at' < 0 then (4, 0) else (0, at')) else (fc, 0)
theorem placeA_of (l : List Fl) (y : Sg) : placeA (flsC l) (atI (idxS y 0 l)) = placeR l y := by
  unfold placeA placeR
  split
  · cases h : idxS y 0 l with
    | none => rfl
    | some i => rw [if_neg (by show ¬ ((i : Int) < 0); omega)]; rfl
  · rfl
set_option maxRecDepth 100000 in
set_option maxHeartbeats 4000000 in
theorem l12Place_any (w : World) (a : Option Addr) (cap : Nat) (l : List (Fl × FlR)) (at' : Int) (hf : ∀ q ∈ l, FlFit q.1) (hl : l.length ≤ 1048576) (hi : FlsIn w a l) :
    Calls Tryz.prog 74 #[.slice a l.length cap, .int .i64 at'] w fun e w' => e = .returned (.agg #[.int .i64 (placeA (flsC (l.map Prod.fst)) at').1, .int .i64 (placeA (flsC (l.map Prod.fst)) at').2]) ∧ Below w.heap.size w w' := by
  have HB := box2 w
  have HB2 : Hid (∀ X, Below (w.alloc (.cells #[.int .i64 0, .int .i64 0] 47)).heap.size (w.alloc (.cells #[.int .i64 0, .int .i64 0] 47)) X → Below w.heap.size w X ∧ X.cell? ⟨w.heap.size, 0, none⟩ = some (.int .i64 0) ∧ X.cell? ⟨w.heap.size, 1, none⟩ = some (.int .i64 0) ∧ X.frozen? ⟨w.heap.size, 0, none⟩ = false ∧ X.frozen? ⟨w.heap.size, 1, none⟩ = false) := HB
  have C := specFls_any (w.alloc (.cells #[.int .i64 0, .int .i64 0] 47)) a cap l hf hl (hi.keep ((Below.refl _ _).alloc (Nat.le_refl _) _))
  obtain ⟨Z1, hZ1⟩ : ∃ Z, Hid ((placeA (flsC (l.map Prod.fst)) at').1 = Z) := ⟨_, rfl⟩
  obtain ⟨Z2, hZ2⟩ : ∃ Z, Hid ((placeA (flsC (l.map Prod.fst)) at').2 = Z) := ⟨_, rfl⟩
  rw [hZ1.out, hZ2.out]
  unfold placeA at hZ1 hZ2
  clear hi hf HB
  generalize flsC (l.map Prod.fst) = fc at *
  generalize l.length = n at *
  go_enter Tryz.func74, Tryz.ntmps74
  go_wp2_with fail
  refine C.mono ?_
  rintro e0 w1 ⟨rfl, hb1⟩
  obtain ⟨k0, k4, k5, k6, k7⟩ := HB2.out w1 hb1
  clear C HB2 hb1
  by_cases c : fc = 0
  rotate_left
  · have c' : (fc != 0) = true := by simpa using c
    have e1 : Hid (fc = Z1 ∧ 0 = Z2) := by have z1 := hZ1.out; have z2 := hZ2.out; rw [if_neg c] at z1 z2; exact ⟨z1, z2⟩
    clear hZ1 hZ2 c
    go_wp2_with fail
    exact bodyPost_ret (v := .agg #[.int .i64 fc, .int .i64 0]) (by simp [results, Tryz.results74, go_sem, k4, k5]) rfl ⟨by rw [← e1.out.1, ← e1.out.2], (k0.setCell (Nat.le_refl _) _).setCell (Nat.le_refl _) _⟩
  subst c
  rw [if_pos rfl] at hZ1 hZ2
  by_cases c2 : at' < 0
  · have e1 : Hid (4 = Z1 ∧ 0 = Z2) := by have z1 := hZ1.out; have z2 := hZ2.out; rw [if_pos c2] at z1 z2; exact ⟨z1, z2⟩
    clear hZ1 hZ2
    go_wp2_with fail
    exact bodyPost_ret (v := .agg #[.int .i64 4, .int .i64 0]) (by simp [results, Tryz.results74, go_sem, k4, k5]) rfl ⟨by rw [← e1.out.1, ← e1.out.2], (k0.setCell (Nat.le_refl _) _).setCell (Nat.le_refl _) _⟩
  · have e1 : Hid (0 = Z1 ∧ at' = Z2) := by have z1 := hZ1.out; have z2 := hZ2.out; rw [if_neg c2] at z1 z2; exact ⟨z1, z2⟩
    clear hZ1 hZ2
    go_wp2_with fail
    exact bodyPost_ret (v := .agg #[.int .i64 0, .int .i64 at']) (by simp [results, Tryz.results74, go_sem, k4, k5]) rfl ⟨by rw [← e1.out.1, ← e1.out.2], (k0.setCell (Nat.le_refl _) _).setCell (Nat.le_refl _) _⟩
set_option maxRecDepth 100000 in
set_option maxHeartbeats 4000000 in
theorem specOf_any (w : World) (a : Option Addr) (cap : Nat) (l : List (Fl × FlR)) (key : ByteArray) (hf : ∀ q ∈ l, FlFit q.1) (hl : l.length ≤ 1048576) (hi : FlsIn w a l) :
    Calls Tryz.prog 24 #[.slice a l.length cap, .string key] w fun e w' => e = .returned (.agg #[.int .i64 (placeR (l.map Prod.fst) ⟨1, 0, key⟩).1, .int .i64 (placeR (l.map Prod.fst) ⟨1, 0, key⟩).2]) ∧ Below w.heap.size w w' := by
  have HB2 : Hid (∀ X, Below (w.alloc (.cells #[.int .i64 0, .int .i64 0] 47)).heap.size (w.alloc (.cells #[.int .i64 0, .int .i64 0] 47)) X → Below w.heap.size w X ∧ X.cell? ⟨w.heap.size, 0, none⟩ = some (.int .i64 0) ∧ X.cell? ⟨w.heap.size, 1, none⟩ = some (.int .i64 0) ∧ X.frozen? ⟨w.heap.size, 0, none⟩ = false ∧ X.frozen? ⟨w.heap.size, 1, none⟩ = false) := box2 w
  have al : Below w.heap.size w (w.alloc (.cells #[.int .i64 0, .int .i64 0] 47)) := (Below.refl _ _).alloc (Nat.le_refl _) _
  have C := l12Key_any (w.alloc (.cells #[.int .i64 0, .int .i64 0] 47)) a cap l key hl (hi.keep al)
  have C2 : Hid (∀ X, Below w.heap.size w X → Calls Tryz.prog 74 #[.slice a l.length cap, .int .i64 (atI (idxS ⟨1, 0, key⟩ 0 (l.map Prod.fst)))] X fun e w' => e = .returned (.agg #[.int .i64 (placeR (l.map Prod.fst) ⟨1, 0, key⟩).1, .int .i64 (placeR (l.map Prod.fst) ⟨1, 0, key⟩).2]) ∧ Below X.heap.size X w') := fun X hX => by
    have z := l12Place_any X a cap l (atI (idxS ⟨1, 0, key⟩ 0 (l.map Prod.fst))) hf hl (hi.keep hX)
    rw [placeA_of] at z
    exact z
  clear hi hf al
  generalize atI (idxS ⟨1, 0, key⟩ 0 (l.map Prod.fst)) = ix at *
  generalize (placeR (l.map Prod.fst) ⟨1, 0, key⟩).1 = r1 at *
  generalize (placeR (l.map Prod.fst) ⟨1, 0, key⟩).2 = r2 at *
  generalize l.length = n at *
  go_enter Tryz.func24, Tryz.ntmps24
  go_wp2_with fail
  refine C.mono ?_
  rintro e0 w1 ⟨rfl, hb1⟩
  have K1 := (HB2.out w1 hb1).1
  have HB3 : Hid (∀ X, Below w1.heap.size w1 X → Below w.heap.size w X ∧ X.cell? ⟨w.heap.size, 0, none⟩ = some (.int .i64 0) ∧ X.cell? ⟨w.heap.size, 1, none⟩ = some (.int .i64 0) ∧ X.frozen? ⟨w.heap.size, 0, none⟩ = false ∧ X.frozen? ⟨w.heap.size, 1, none⟩ = false) := fun X hX => HB2.out X (hb1.trans (hX.mono hb1.size))
  clear C HB2 hb1
  go_wp2_with fail
  refine (C2.out _ K1).mono ?_
  rintro e0 w2 ⟨rfl, hb2⟩
  obtain ⟨k0, k4, k5, k6, k7⟩ := HB3.out w2 hb2
  clear C2 HB3 hb2 K1
  go_wp2_with fail
  exact bodyPost_ret (v := .agg #[.int .i64 r1, .int .i64 r2]) (by simp [results, Tryz.results24, go_sem, k4, k5]) rfl ⟨rfl, (k0.setCell (Nat.le_refl _) _).setCell (Nat.le_refl _) _⟩
set_option maxRecDepth 100000 in
set_option maxHeartbeats 4000000 in
theorem implOf_any (E : Errs) (w : World) (a : Option Addr) (cap : Nat) (l : List (Fl × FlR)) (key : ByteArray) (hok : SgOk ⟨1, 0, key⟩) (hf : ∀ q ∈ l, FlFit q.1) (hl : l.length ≤ 1048576) (hset : SetIs w) (hE : ErrsIs w E) (hi : FlsIn w a l) :
    Calls Tryz.prog 21 #[.slice a l.length cap, .string key] w fun e w' => e = .returned (.agg #[.int .i64 (placeR (l.map Prod.fst) ⟨1, 0, key⟩).1, .int .i64 (placeR (l.map Prod.fst) ⟨1, 0, key⟩).2]) ∧ Below w.heap.size w w' := by
  have HB2 : Hid (∀ X, Below (w.alloc (.cells #[.int .i64 0, .int .i64 0] 47)).heap.size (w.alloc (.cells #[.int .i64 0, .int .i64 0] 47)) X → Below w.heap.size w X ∧ X.cell? ⟨w.heap.size, 0, none⟩ = some (.int .i64 0) ∧ X.cell? ⟨w.heap.size, 1, none⟩ = some (.int .i64 0) ∧ X.frozen? ⟨w.heap.size, 0, none⟩ = false ∧ X.frozen? ⟨w.heap.size, 1, none⟩ = false) := box2 w
  have al : Below w.heap.size w (w.alloc (.cells #[.int .i64 0, .int .i64 0] 47)) := (Below.refl _ _).alloc (Nat.le_refl _) _
  have C := knownBy_any E (w.alloc (.cells #[.int .i64 0, .int .i64 0] 47)) a cap l ⟨1, 0, key⟩ hok hf hl (hset.below al) (hE.below al) (hi.keep al)
  simp only at C
  clear hi hf al hset hE hok
  generalize (placeR (l.map Prod.fst) ⟨1, 0, key⟩).1 = r1 at *
  generalize (placeR (l.map Prod.fst) ⟨1, 0, key⟩).2 = r2 at *
  generalize l.length = n at *
  go_enter Tryz.func21, Tryz.ntmps21
  go_wp2_with fail
  refine C.mono ?_
  rintro e0 w2 ⟨rfl, hb2⟩
  obtain ⟨k0, k4, k5, k6, k7⟩ := HB2.out w2 hb2
  clear C HB2 hb2
  go_wp2_with fail
  exact bodyPost_ret (v := .agg #[.int .i64 r1, .int .i64 r2]) (by simp [results, Tryz.results21, go_sem, k4, k5]) rfl ⟨rfl, (k0.setCell (Nat.le_refl _) _).setCell (Nat.le_refl _) _⟩
set_option maxRecDepth 100000 in
set_option maxHeartbeats 4000000 in
theorem specBy_any (w : World) (a : Option Addr) (cap : Nat) (l : List (Fl × FlR)) (key : Int) (hf : ∀ q ∈ l, FlFit q.1) (hl : l.length ≤ 1048576) (hi : FlsIn w a l) :
    Calls Tryz.prog 25 #[.slice a l.length cap, .int .i64 key] w fun e w' => e = .returned (.agg #[.int .i64 (placeR (l.map Prod.fst) ⟨0, key, ⟨#[]⟩⟩).1, .int .i64 (placeR (l.map Prod.fst) ⟨0, key, ⟨#[]⟩⟩).2]) ∧ Below w.heap.size w w' := by
  have HB2 : Hid (∀ X, Below (w.alloc (.cells #[.int .i64 0, .int .i64 0] 47)).heap.size (w.alloc (.cells #[.int .i64 0, .int .i64 0] 47)) X → Below w.heap.size w X ∧ X.cell? ⟨w.heap.size, 0, none⟩ = some (.int .i64 0) ∧ X.cell? ⟨w.heap.size, 1, none⟩ = some (.int .i64 0) ∧ X.frozen? ⟨w.heap.size, 0, none⟩ = false ∧ X.frozen? ⟨w.heap.size, 1, none⟩ = false) := box2 w
  have al : Below w.heap.size w (w.alloc (.cells #[.int .i64 0, .int .i64 0] 47)) := (Below.refl _ _).alloc (Nat.le_refl _) _
  have C := l12Id_any (w.alloc (.cells #[.int .i64 0, .int .i64 0] 47)) a cap l key hl (hi.keep al)
  have C2 : Hid (∀ X, Below w.heap.size w X → Calls Tryz.prog 74 #[.slice a l.length cap, .int .i64 (atI (idxS ⟨0, key, ⟨#[]⟩⟩ 0 (l.map Prod.fst)))] X fun e w' => e = .returned (.agg #[.int .i64 (placeR (l.map Prod.fst) ⟨0, key, ⟨#[]⟩⟩).1, .int .i64 (placeR (l.map Prod.fst) ⟨0, key, ⟨#[]⟩⟩).2]) ∧ Below X.heap.size X w') := fun X hX => by
    have z := l12Place_any X a cap l (atI (idxS ⟨0, key, ⟨#[]⟩⟩ 0 (l.map Prod.fst))) hf hl (hi.keep hX)
    rw [placeA_of] at z
    exact z
  clear hi hf al
  generalize atI (idxS ⟨0, key, ⟨#[]⟩⟩ 0 (l.map Prod.fst)) = ix at *
  generalize (placeR (l.map Prod.fst) ⟨0, key, ⟨#[]⟩⟩).1 = r1 at *
  generalize (placeR (l.map Prod.fst) ⟨0, key, ⟨#[]⟩⟩).2 = r2 at *
  generalize l.length = n at *
  go_enter Tryz.func25, Tryz.ntmps25
  go_wp2_with fail
  refine C.mono ?_
  rintro e0 w1 ⟨rfl, hb1⟩
  have K1 := (HB2.out w1 hb1).1
  have HB3 : Hid (∀ X, Below w1.heap.size w1 X → Below w.heap.size w X ∧ X.cell? ⟨w.heap.size, 0, none⟩ = some (.int .i64 0) ∧ X.cell? ⟨w.heap.size, 1, none⟩ = some (.int .i64 0) ∧ X.frozen? ⟨w.heap.size, 0, none⟩ = false ∧ X.frozen? ⟨w.heap.size, 1, none⟩ = false) := fun X hX => HB2.out X (hb1.trans (hX.mono hb1.size))
  clear C HB2 hb1
  go_wp2_with fail
  refine (C2.out _ K1).mono ?_
  rintro e0 w2 ⟨rfl, hb2⟩
  obtain ⟨k0, k4, k5, k6, k7⟩ := HB3.out w2 hb2
  clear C2 HB3 hb2 K1
  go_wp2_with fail
  exact bodyPost_ret (v := .agg #[.int .i64 r1, .int .i64 r2]) (by simp [results, Tryz.results25, go_sem, k4, k5]) rfl ⟨rfl, (k0.setCell (Nat.le_refl _) _).setCell (Nat.le_refl _) _⟩
set_option maxRecDepth 100000 in
set_option maxHeartbeats 4000000 in
theorem implBy_any (E : Errs) (w : World) (a : Option Addr) (cap : Nat) (l : List (Fl × FlR)) (key : Int) (hok : SgOk ⟨0, key, ⟨#[]⟩⟩) (hf : ∀ q ∈ l, FlFit q.1) (hl : l.length ≤ 1048576) (hset : SetIs w) (hE : ErrsIs w E) (hi : FlsIn w a l) :
    Calls Tryz.prog 23 #[.slice a l.length cap, .int .i64 key] w fun e w' => e = .returned (.agg #[.int .i64 (placeR (l.map Prod.fst) ⟨0, key, ⟨#[]⟩⟩).1, .int .i64 (placeR (l.map Prod.fst) ⟨0, key, ⟨#[]⟩⟩).2]) ∧ Below w.heap.size w w' := by
  have HB2 : Hid (∀ X, Below (w.alloc (.cells #[.int .i64 0, .int .i64 0] 47)).heap.size (w.alloc (.cells #[.int .i64 0, .int .i64 0] 47)) X → Below w.heap.size w X ∧ X.cell? ⟨w.heap.size, 0, none⟩ = some (.int .i64 0) ∧ X.cell? ⟨w.heap.size, 1, none⟩ = some (.int .i64 0) ∧ X.frozen? ⟨w.heap.size, 0, none⟩ = false ∧ X.frozen? ⟨w.heap.size, 1, none⟩ = false) := box2 w
  have al : Below w.heap.size w (w.alloc (.cells #[.int .i64 0, .int .i64 0] 47)) := (Below.refl _ _).alloc (Nat.le_refl _) _
  have C := knownBy_any E (w.alloc (.cells #[.int .i64 0, .int .i64 0] 47)) a cap l ⟨0, key, ⟨#[]⟩⟩ hok hf hl (hset.below al) (hE.below al) (hi.keep al)
  simp only at C
  clear hi hf al hset hE hok
  generalize (placeR (l.map Prod.fst) ⟨0, key, ⟨#[]⟩⟩).1 = r1 at *
  generalize (placeR (l.map Prod.fst) ⟨0, key, ⟨#[]⟩⟩).2 = r2 at *
  generalize l.length = n at *
  go_enter Tryz.func23, Tryz.ntmps23
  go_wp2_with fail
  refine C.mono ?_
  rintro e0 w2 ⟨rfl, hb2⟩
  obtain ⟨k0, k4, k5, k6, k7⟩ := HB2.out w2 hb2
  clear C HB2 hb2
  go_wp2_with fail
  exact bodyPost_ret (v := .agg #[.int .i64 r1, .int .i64 r2]) (by simp [results, Tryz.results23, go_sem, k4, k5]) rfl ⟨rfl, (k0.setCell (Nat.le_refl _) _).setCell (Nat.le_refl _) _⟩
end Go.Proofs.YtgejegmilkmiiaaGreatDoor
