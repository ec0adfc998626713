/-
  What ParseItems answers: the loop.
-/
import Derived.Test.YtibomkcbopkpkaaDoorParseState
namespace Go.Proofs.YtibomkcbopkpkaaDoor
open Go.ChangeShapes Go.WideShapes Go.ChangeAt Go.RowKit Go.Shelf
attribute [local go_sem] Oper.semAt_some
def ParseOut (s : ByteArray) (base : Nat) (e : Ending) (w : World) : Prop := ∃ v, e = .returned (.agg #[.int .i64 (parseC s), v]) ∧ OwnI w base v (parseL s)
theorem ParseOut.mk {s : ByteArray} {base : Nat} {w : World} {v : Value} {c : Int} {L : List Rec} (h : parseC s = c ∧ parseL s = L) (ho : OwnI w base v L) : ParseOut s base (.returned (.agg #[.int .i64 c, v])) w := ⟨v, by rw [h.1], by rw [h.2]; exact ho⟩
theorem own_set {W : World} {base b o : Nat} {v u : Value} {l : List Rec} (h : OwnI W base v l) (hb : b < base) : OwnI (W.setCell ⟨b, o, none⟩ u) base v l := by
  obtain ⟨h1, h2⟩ := h
  refine ⟨h1, ?_⟩
  rcases h2 with h2 | ⟨g, c, cur, e, hg, hh, hrest⟩
  · exact .inl h2
  · exact .inr ⟨g, c, cur, e, hg, by rw [Below.heap_setCell _ _ _ g (fun e => by simp only at e; omega)]; exact hh, hrest⟩
/-- Behind the loop, at the function's end: what its result's room holds. -/
theorem parse_end {w W2 : World} {D : Nat} {c : Int} {v : Value} {s : ByteArray} {L : List Rec} (hD : w.heap.size + 3 ≤ D) (hK : W2.heap[D]? = some (.deferred (some []))) (q0 : W2.cell? ⟨w.heap.size, 0, none⟩ = some (.int .i64 c)) (q1 : W2.cell? ⟨w.heap.size, 1, none⟩ = some v)
    (hb : Below w.heap.size w W2) (ho : OwnI W2 (w.heap.size + 3) v L) (hY : parseC s = c ∧ parseL s = L) :
    (W2.putObj D (.deferred none)).cell? ⟨w.heap.size, 0, none⟩ = some (.int .i64 c) ∧ (W2.putObj D (.deferred none)).cell? ⟨w.heap.size, 1, none⟩ = some v ∧ ParseOut s w.heap.size (.returned (.agg #[.int .i64 c, v])) (W2.putObj D (.deferred none)) ∧ Below w.heap.size w (W2.putObj D (.deferred none)) := by
  have hr : ∀ r, some D = some r → ∃ o : Obj, W2.heap[r]? = some o ∧ o.isCells = false := fun r e => by cases e; exact ⟨_, hK, rfl⟩
  refine ⟨cell_kept q0 (grownBy_putObj' W2 D _) hr, cell_kept q1 (grownBy_putObj' W2 D _) hr, ParseOut.mk hY ?_, hb.trans (belowK_b (w := w) (Nat.le_refl _) W2 D _ _ (by omega) hK rfl rfl)⟩
  have h1 : OwnI (W2.putObj D (.deferred none)) (w.heap.size + 3) v L := ownsRow_putObj ho _ hK rfl
  exact h1.lower (by omega)
theorem cell_one (X : World) (v : Value) (t : TypeId) : (X.alloc (.cells #[v] t)).cell? ⟨X.heap.size, 0, none⟩ = some v := by simp
theorem fr_keepA {W : World} {p : Addr} {v : Value} (o : Obj) (h : W.cell? p = some v) : (W.alloc o).frozen? p = W.frozen? p := ((Below.refl _ W).alloc (Nat.le_refl _) o).frozen (block_lt_of_cell h)
theorem cells3_new (w : World) (a b c : Value) (t : TypeId) : ∀ (j : Nat) u, ([a, b, c] : List Value)[j]? = some u → (w.alloc (.cells #[a, b, c] t)).cell? ((⟨w.heap.size, 0, none⟩ : Addr).add j) = some u := by
  intro j u hj
  match j, hj with
  | 0, hj => simp at hj; subst hj; simp [Addr.add]
  | 1, hj => simp at hj; subst hj; simp [Addr.add]
  | 2, hj => simp at hj; subst hj; simp [Addr.add]
theorem recsW_snoc (l : List Rec) (n : ByteArray) (h : Bool) (v : ByteArray) : recsW (l ++ [⟨n, h, v⟩]) = recsW l ++ [.string n, .bool h, .string v] := by simp [recsW, recW]
def actX (w : World) (s : ByteArray) (x : Rec × Int) (Bx : Nat) : Act := { tmps := #[.string s, undef, .pointer (some ⟨w.heap.size, 0, none⟩), .pointer (some ⟨w.heap.size + 1, 0, none⟩), .pointer (some ⟨Bx, 0, none⟩), .int .i64 x.2, .string s, .int .i64 s.size, .bool false, undef, .string s, .func (.func 123) #[] #[.pointer (some ⟨w.heap.size + 1 + 1, 0, none⟩)], .agg #[.string x.1.name, .bool x.1.has, .string x.1.value], .int .i64 x.2, undef, undef, undef, undef, undef, undef, undef, undef, undef, undef, undef, undef, undef, undef], defers := [] }
set_option maxRecDepth 100000 in
set_option maxHeartbeats 8000000 in
theorem implParse_loop (s : ByteArray) (w : World) (hs : s.size ≤ 1000) (hset : SetIs w) :
    Calls Tryd.prog 30 #[.string s] w fun e w' => ParseOut s w.heap.size e w' ∧ Below w.heap.size w w' := by
  have g : ¬ (1000 : Int) < s.size := by omega
  have hG : 0 < w.heap.size := by
    obtain ⟨cs, tt, fr, hg, _⟩ := hset
    exact (Array.getElem?_eq_some_iff.1 hg).1
  obtain ⟨i0, hi, hz0, hz1, hz2⟩ := info_parts infoItem
  refine (callsIn_wide (n := 3)).1 ?_
  refine callsIn_of_wp_marks Tryd.func30 rfl trivial ?_ rfl
  simp only [Tryd.ntmps30, List.size_toArray, List.length_cons, List.length_nil, Nat.reduceAdd, Nat.reduceSub, Array.replicate_succ, Array.replicate_zero, List.push_toArray, List.append_toArray, List.nil_append, List.cons_append]
  gi_wp2_with (refine ⟨trivial, ?_⟩; gi_at_call 79; refine (callsIn_wide.2 (itemsOf_any s _)).mono ?_; rintro e w' ⟨rfl, rfl⟩)
  have hb0 : Below w.heap.size w (((w.alloc (.cells #[.int .i64 0, .slice none 0 0] 41)).alloc (.cells #[.slice none 0 0] 37)).alloc (.cells #[.string s] 9)) := (((Below.refl _ w).alloc (Nat.le_refl _) _).alloc (by simp) _).alloc (by simp; omega) _
  have hsz : (((w.alloc (.cells #[.int .i64 0, .slice none 0 0] 41)).alloc (.cells #[.slice none 0 0] 37)).alloc (.cells #[.string s] 9)).heap.size = w.heap.size + 3 := by simp
  have hpi : PI w [] (((w.alloc (.cells #[.int .i64 0, .slice none 0 0] 41)).alloc (.cells #[.slice none 0 0] 37)).alloc (.cells #[.string s] 9)) := by
    have e1 := World.size_alloc w (.cells #[.int .i64 0, .slice none 0 0] 41)
    have b1 : ((w.alloc (.cells #[.int .i64 0, .slice none 0 0] 41)).alloc (.cells #[.slice none 0 0] 37)).cell? ⟨w.heap.size + 1, 0, none⟩ = some (.slice none 0 0) := by rw [← e1]; simp
    have b2 : ((w.alloc (.cells #[.int .i64 0, .slice none 0 0] 41)).alloc (.cells #[.slice none 0 0] 37)).frozen? ⟨w.heap.size + 1, 0, none⟩ = false := by rw [← e1]; simp
    have k := (Below.refl _ ((w.alloc (.cells #[.int .i64 0, .slice none 0 0] 41)).alloc (.cells #[.slice none 0 0] 37))).alloc (Nat.le_refl _) (.cells #[.string s] 9)
    have a0 : (w.alloc (.cells #[.int .i64 0, .slice none 0 0] 41)).cell? ⟨w.heap.size, 0, none⟩ = some (.int .i64 0) := by simp
    have a1 : (w.alloc (.cells #[.int .i64 0, .slice none 0 0] 41)).cell? ⟨w.heap.size, 1, none⟩ = some (.slice none 0 0) := by simp
    have z0 : (w.alloc (.cells #[.int .i64 0, .slice none 0 0] 41)).frozen? ⟨w.heap.size, 0, none⟩ = false := by simp
    have z1 : (w.alloc (.cells #[.int .i64 0, .slice none 0 0] 41)).frozen? ⟨w.heap.size, 1, none⟩ = false := by simp
    refine { good := fun x hx => by simp at hx, row := ⟨.slice none 0 0, f_keepA _ b1, OwnI.nil _ _⟩, bf := ?_, c0 := f_keepA _ (f_keepA _ a0), c1 := f_keepA _ (f_keepA _ a1), f0 := (fr_keepA _ (f_keepA _ a0)).trans ((fr_keepA _ a0).trans z0), f1 := (fr_keepA _ (f_keepA _ a1)).trans ((fr_keepA _ a1).trans z1), below := hb0, size := by rw [hsz]; omega }
    rw [k.frozen (block_lt_of_cell b1)]; exact b2
  have hct : (((w.alloc (.cells #[.int .i64 0, .slice none 0 0] 41)).alloc (.cells #[.slice none 0 0] 37)).alloc (.cells #[.string s] 9)).cell? ⟨w.heap.size + 2, 0, none⟩ = some (.string s) := by
    have e1 : ((w.alloc (.cells #[.int .i64 0, .slice none 0 0] 41)).alloc (.cells #[.slice none 0 0] 37)).heap.size = w.heap.size + 2 := by simp
    have hc := cell_one ((w.alloc (.cells #[.int .i64 0, .slice none 0 0] 41)).alloc (.cells #[.slice none 0 0] 37)) (.string s) 9
    rw [e1] at hc
    exact hc
  obtain ⟨W0, hW0⟩ : ∃ W0, (((w.alloc (.cells #[.int .i64 0, .slice none 0 0] 41)).alloc (.cells #[.slice none 0 0] 37)).alloc (.cells #[.string s] 9)) = W0 := ⟨_, rfl⟩
  rw [hW0] at hb0 hsz hpi hct ⊢
  clear hW0
  have hset0 : SetIs W0 := hset.below hb0
  refine wpIn_rangeFunc_ownH rfl (by omega) (gf := 123) (lb := #[.pointer (some ⟨w.heap.size + 2, 0, none⟩)]) rfl trivial (enters_of Tryd.func123 (by kernel_rfl) rfl)
    (tell_stops 2 (by omega) (w.heap.size + 2) w.heap.size s hs hG W0 (by omega) hct hset0) keepT_t (keepT_b (by omega)) (Below.refl _ _) (fun _ => rfl)
    (fun pre W => PI w pre W) (fun c pre W => PX w c pre W)
    (fun pre W W' row h hg hr => pi_grown h hg (fun r e => by have := hr r e; rw [hsz] at this; exact this))
    (fun c pre W W' row h hg hr => px_grown h hg (fun r e => by have := hr r e; rw [hsz] at this; exact this))
    hpi
    (fun x a' W => ∃ Bx, w.heap.size + 3 ≤ Bx ∧ (W.cell? ⟨Bx, 0, none⟩ = some (.string x.1.name) ∧ W.cell? ⟨Bx, 1, none⟩ = some (.bool x.1.has) ∧ W.cell? ⟨Bx, 2, none⟩ = some (.string x.1.value)) ∧ a' = actX w s x Bx)
    (fun x a' _ W W' row h hg hr => by
      obtain ⟨Bx, h1, ⟨h2, h3, h4⟩, h5⟩ := h
      exact ⟨Bx, h1, ⟨cell_kept h2 hg (fun r e => (hr r e).2), cell_kept h3 hg (fun r e => (hr r e).2), cell_kept h4 hg (fun r e => (hr r e).2)⟩, h5⟩)
    ?assign ?body ?done ?stop
  case assign =>
    rintro l pre x W K hI hK
    have HK := hK (actX w s x W.heap.size) (W.alloc (.cells #[.string x.1.name, .bool x.1.has, .string x.1.value] 80)) ((KeepsOthers.alloc _ _).from _) ⟨(Below.refl _ W).alloc (by have := hI.size; omega) _, fun h => f_keepA _ h⟩ (pi_alloc hI _) ⟨W.heap.size, hI.size, ⟨by simp, by simp, by simp⟩, rfl⟩
    clear hK
    unfold actX at HK
    simp only [encX]
    gi_wp2
    exact HK
  case body =>
    rintro l pre x a' W hl hrec hI ⟨Bx, hBx, ⟨x0, x1, x2⟩, rfl⟩ hlt
    unfold actX
    rw [hsz]
    obtain ⟨⟨rn, rh, rv⟩, rc⟩ := x
    simp only at x0 x1 x2 ⊢
    obtain ⟨v, hv, ho⟩ := hI.row
    have hlen : (pre.map (·.1)).length < 1002 := by rw [List.length_map]; exact hlt
    have HI : Hid (PI w pre W) := hI
    have hzW := hI.size
    by_cases c0 : rc = 0
    · subst c0
      have hgo : ∀ (v' : Value) (w1 : World), OwnI w1 (w.heap.size + 3) v' (pre.map (·.1) ++ [⟨rn, rh, rv⟩]) → (W.alloc (.cells #[.string rn, .bool rh, .string rv] 80)).grownBy w1 v.ownBlock → _ := fun v' w1 ho' hg => pi_append (s := s) HI.out hv ho ho' hg
      have HGO : Hid (∀ (v' : Value) (w1 : World), OwnI w1 (w.heap.size + 3) v' (pre.map (·.1) ++ [⟨rn, rh, rv⟩]) → (W.alloc (.cells #[.string rn, .bool rh, .string rv] 80)).grownBy w1 v.ownBlock → w1.cell? ⟨w.heap.size + 1, 0, none⟩ = some v ∧ w1.frozen? ⟨w.heap.size + 1, 0, none⟩ = false ∧ PI w (pre ++ [(⟨rn, rh, rv⟩, 0)]) (w1.setCell ⟨w.heap.size + 1, 0, none⟩ v') ∧ KeepT w.heap.size (w.heap.size + 2) s W (w1.setCell ⟨w.heap.size + 1, 0, none⟩ v') ∧ KeepsFrom (w.heap.size + 3) W (w1.setCell ⟨w.heap.size + 1, 0, none⟩ v')) := hgo
      have HO : Hid (OwnI W (w.heap.size + 3) v (pre.map (·.1))) := ho
      clear hgo ho hI
      gi_wp2_with (gi_at_builtin; refine wpListIn_append_own _ rfl _ _ 37 rfl (w.heap.size + 3) 80 i0 (.agg #[.string ⟨#[]⟩, .bool false, .string ⟨#[]⟩]) 3 40 Tryd.underlying37 hi hz0 hz1 hz2 rfl (by decide) v (pre.map (·.1)).length (recsW (pre.map (·.1))) rfl (World.ownsRow.alloc HO.out _) ⟨W.heap.size, 0, none⟩ 1 1 [.string rn, .bool rh, .string rv] rfl rfl (cells3_new _ _ _ _ _) (by simp [Value.oneCell']) (by unfold maxLen; omega) (by omega) (by simp; omega) ?_; intro v' w1 hown' hgrow _; obtain ⟨g', cap', hg'⟩ := ownsRow_succ hown'; obtain ⟨hc1, hf1, hp1, hk1, hkf1⟩ := HGO.out v' w1 (by unfold OwnI; rw [recsW_snoc, List.length_append]; exact hown') hgrow; subst hg')
      rw [List.length_map] at hkf1 hk1 hp1
      exact ⟨hkf1, hk1, hp1⟩
    · have e0 : (rc != 0) = true := by simpa using c0
      have hc0 := hI.c0
      have hc1 := hI.c1
      have hf0 := hI.f0
      have hf1 := hI.f1
      obtain ⟨q0, q1⟩ := two_set (v0 := .int .i64 rc) (v1 := .slice none 0 0) hc0 hc1
      have HX : Hid (PX w .ret (pre ++ [(⟨rn, rh, rv⟩, rc)]) ((W.setCell ⟨w.heap.size, 0, none⟩ (.int .i64 rc)).setCell ⟨w.heap.size, 1, none⟩ (.slice none 0 0))) := ⟨rfl, ⟨pre, _, rfl, c0, q0, q1⟩, (hI.below.setCell (p := ⟨w.heap.size, 0, none⟩) (Nat.le_refl _) _).setCell (p := ⟨w.heap.size, 1, none⟩) (Nat.le_refl _) _⟩
      clear ho hI q0 q1
      gi_wp2
      exact ⟨((KeepsOthers.setCell _ _ _).trans (KeepsOthers.setCell _ _ _)).from _, HX.out⟩
  case done =>
    rintro D ys W hD hS hI hK
    rw [hsz] at hD
    obtain ⟨v, hv, ho⟩ := hI.row
    have hrd : readP (pcs false [] s.data.toList) = some (ys.map (·.1)) := readP_all _ _ hS hI.good
    obtain ⟨va, vc, rfl, _⟩ := ho.at
    have hc0 := hI.c0
    have hc1 := hI.c1
    have hf0 := hI.f0
    have hf1 := hI.f1
    have hbW := hI.below
    have HO : Hid (OwnI W (w.heap.size + 3) (.slice va (ys.map (·.1)).length vc) (ys.map (·.1))) := ho
    have hnl : (ys.map (·.1)).length ≤ 1000000 := by
      rw [List.length_map, ← tells_len hS]
      have h1 := trims_len (pcs false [] s.data.toList)
      have h2 := (pcs_small s.data.toList.length s.data.toList false [] (Nat.le_refl _)).2
      rw [size_list] at h2
      omega
    by_cases hbig : 20 < (ys.map (·.1)).length
    · have HY : Hid (parseC s = 2 ∧ parseL s = []) := parse_many (by omega) hrd hbig
      have gb : (20 : Int) < ((ys.map (·.1)).length : Int) := by omega
      clear hrd hS hI ho
      generalize ys.map (·.1) = L at *
      obtain ⟨q0, q1⟩ := two_set (v0 := .int .i64 2) (v1 := .slice none 0 0) hc0 hc1
      have hK2 := ((KeepsOthers.setCell W ⟨w.heap.size, 0, none⟩ (.int .i64 2)).trans (KeepsOthers.setCell _ ⟨w.heap.size, 1, none⟩ (.slice none 0 0))).same D _ hK rfl
      obtain ⟨r0, r1, r2, r3⟩ := parse_end hD hK2 q0 q1 ((hbW.setCell (p := ⟨w.heap.size, 0, none⟩) (Nat.le_refl _) _).setCell (p := ⟨w.heap.size, 1, none⟩) (Nat.le_refl _) _) (OwnI.nil _ _) HY.out
      have RR : Hid (ParseOut s w.heap.size (.returned (.agg #[.int .i64 2, .slice none 0 0])) _ ∧ Below w.heap.size w _) := ⟨r2, r3⟩
      clear r2 r3
      gi_wp2
      refine ⟨by simp, .inl ⟨_, _, rfl, run_takeDeferred hK2, ?_⟩⟩
      exact ⟨.agg #[.int .i64 2, .slice none 0 0], by simp [results, Tryd.results30, go_sem, r0, r1], RR.out⟩
    · have HY : Hid (parseC s = 0 ∧ parseL s = ys.map (·.1)) := parse_ok (by omega) hrd hbig
      have gb : ¬ (20 : Int) < ((ys.map (·.1)).length : Int) := by omega
      clear hrd hS hI ho
      generalize ys.map (·.1) = L at *
      obtain ⟨q0, q1⟩ := two_set (v0 := .int .i64 0) (v1 := .slice va L.length vc) hc0 hc1
      have hK2 := ((KeepsOthers.setCell W ⟨w.heap.size, 0, none⟩ (.int .i64 0)).trans (KeepsOthers.setCell _ ⟨w.heap.size, 1, none⟩ (.slice va L.length vc))).same D _ hK rfl
      obtain ⟨r0, r1, r2, r3⟩ := parse_end hD hK2 q0 q1 ((hbW.setCell (p := ⟨w.heap.size, 0, none⟩) (Nat.le_refl _) _).setCell (p := ⟨w.heap.size, 1, none⟩) (Nat.le_refl _) _) (own_set (own_set HO.out (by omega)) (by omega)) HY.out
      have RR : Hid (ParseOut s w.heap.size (.returned (.agg #[.int .i64 0, .slice va L.length vc])) _ ∧ Below w.heap.size w _) := ⟨r2, r3⟩
      clear r2 r3
      gi_wp2
      refine ⟨by simp, .inl ⟨_, _, rfl, run_takeDeferred hK2, ?_⟩⟩
      exact ⟨.agg #[.int .i64 0, .slice va L.length vc], by simp [results, Tryd.results30, go_sem, r0, r1], RR.out⟩
  case stop =>
    rintro D c pre W hD ⟨d, hd, ht⟩ ⟨rfl, ⟨pr, x, rfl, hx, q0, q1⟩, hbW⟩ hK
    rw [hsz] at hD
    obtain ⟨t, htd, htx⟩ := tells_last ht
    have hx5 : x.2 = 5 ∧ readR t = none := by
      rcases htx with h | h
      · exact absurd h.1 hx
      · exact h
    have hrd : readP (pcs false [] s.data.toList) = none := readP_none _ t (hd.subset htd) hx5.2
    have HY : Hid (parseC s = 5 ∧ parseL s = []) := parse_bad (by omega) hrd
    rw [hx5.1] at q0
    obtain ⟨r0, r1, r2, r3⟩ := parse_end hD hK q0 q1 hbW (OwnI.nil _ _) HY.out
    have RR : Hid (ParseOut s w.heap.size (.returned (.agg #[.int .i64 5, .slice none 0 0])) _ ∧ Below w.heap.size w _) := ⟨r2, r3⟩
    clear r2 r3
    gi_wp2
    refine ⟨by simp, .inl ⟨_, _, rfl, run_takeDeferred hK, ?_⟩⟩
    exact ⟨.agg #[.int .i64 5, .slice none 0 0], by simp [results, Tryd.results30, go_sem, r0, r1], RR.out⟩
end Go.Proofs.YtibomkcbopkpkaaDoor
