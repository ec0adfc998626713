/-
  Texts of one claim, one behind the other.
-/
import Derived.Deep.RegionHeld3
import Derived.Lib.SliceRun
import Derived.WalkSmall
import Derived.Test.YtaphofdcoddopaaGreatDoorMgE
/-
  slices.DeleteFunc at a row of pointers of one's own.
-/
namespace Go.Proofs.YtaphofdcoddopaaGreatDoor
open Go.ChangeShapes Go.WideShapes Go.ChangeAt Go.RowKit Go.Sort
theorem grow_below {w w' : World} (row : Option Nat) (h : Below w.heap.size w w') : w.grownBy w' row := ⟨h.os, h.tape, h.output, h.size, fun k hk _ => h.block k hk⟩
theorem grow_trans {w w1 w2 : World} {row : Option Nat} (h : w.grownBy w1 row) (k : w1.grownBy w2 row) : w.grownBy w2 row :=
  ⟨k.os.trans h.os, k.tape.trans h.tape, k.output.trans h.output, Nat.le_trans h.size k.size, fun i hi hn => (k.block i (Nat.lt_of_lt_of_le hi h.size) hn).trans (h.block i hi hn)⟩
theorem row_setCells {base g n cap : Nat} {e : TypeId} : ∀ (vs : List Value) (o : Nat) (w : World) (xs : List Value), w.ownsRow base e 1 (.slice (some ⟨g, 0, none⟩) n cap) n xs → ∃ ys, (w.setCells g o vs).ownsRow base e 1 (.slice (some ⟨g, 0, none⟩) n cap) n ys ∧ (∀ k, k < o → ys[k]? = xs[k]?) ∧ w.grownBy (w.setCells g o vs) (some g)
  | [], _, w, xs, h => ⟨xs, h, fun _ _ => rfl, grow_below _ (Below.refl _ _)⟩
  | v :: r, o, w, xs, h => by
    obtain ⟨h1, h2⟩ := World.ownsRow.stored h o v
    obtain ⟨ys, h3, h4, h5⟩ := row_setCells r (o + 1) _ _ h1
    exact ⟨ys, h3, fun k hk => by rw [h4 k (by omega), List.getElem?_set_ne (by omega)], grow_trans h2 h5⟩
theorem row_cut {w : World} {base g n cap i : Nat} {e : TypeId} {xs : List Value} (h : w.ownsRow base e 1 (.slice (some ⟨g, 0, none⟩) n cap) n xs) (hi : i ≤ n) : w.ownsRow base e 1 (.slice (some ⟨g, 0, none⟩) i cap) i (xs.take i) := by
  obtain ⟨hx, h2⟩ := h
  rcases h2 with ⟨h0, _⟩ | ⟨g', cap', cur, hv, hg, hh, hn, hcap, hsz, htake⟩
  · cases h0
  · simp only [Value.slice.injEq, Option.some.injEq, Addr.mk.injEq, and_true, true_and] at hv
    obtain ⟨rfl, rfl⟩ := hv
    refine ⟨by rw [List.length_take]; omega, .inr ⟨g, cap, cur, rfl, hg, hh, by omega, hcap, hsz, ?_⟩⟩
    rw [← htake, List.take_take]
    congr 1
    omega
/-- A function value tells of the handles l whether they are meant, whatever world follows w. -/
structure PredH (lo : Nat) (w : World) (g : Nat) (lb : Array Value) (p : Hdl → Bool) (l : List Hdl) : Prop where
  eg : ∀ args X, (callFunc g args).run Tryz.prog X = .ok (.enter g args) X
  call : ∀ X, Below lo w X → ∀ h ∈ l, Calls Tryz.prog g (#[.pointer (some ⟨h.b, h.o, none⟩)] ++ lb) X fun e X' => e = .returned (.bool (p h)) ∧ Below X.heap.size X X'
theorem PredH.later {lo : Nat} {w w' : World} {g : Nat} {lb : Array Value} {p : Hdl → Bool} {l : List Hdl} (h : PredH lo w g lb p l) (hb : Below lo w w') : PredH lo w' g lb p l := ⟨h.eg, fun X hX => h.call X (hb.trans hX)⟩
theorem PredH.sub {lo : Nat} {w : World} {g : Nat} {lb : Array Value} {p : Hdl → Bool} {l m : List Hdl} (h : PredH lo w g lb p l) (hs : ∀ x ∈ m, x ∈ l) : PredH lo w g lb p m := ⟨h.eg, fun X hX x hx => h.call X hX x (hs x hx)⟩
theorem PredF.h {B0 g : Nat} {lb : Array Value} {p : Ent → Bool} {C : World → Prop} {w : World} {l : List Hdl} (PF : PredF B0 g lb p C) (hC : C w) (hB : B0 ≤ w.heap.size) (hth : ∀ h ∈ l, HThere w h) (hts : ∀ h ∈ l, h.x.ts.length ≤ 1048576) : PredH w.heap.size w g lb (fun h => p h.x) l :=
  ⟨PF.eg, fun X hX h hh => PF.call X h (PF.keep _ _ hC (hX.mono hB)) ((hth h hh).keep hX) (hts h hh)⟩
def IdxR (p : Hdl → Bool) (l : List Hdl) (e : Ending) : Prop := (∃ A h B, l = A ++ h :: B ∧ p h = true ∧ (∀ a ∈ A, p a = false) ∧ e = .returned (.int .i64 (A.length : Int))) ∨ ((∀ h ∈ l, p h = false) ∧ e = .returned (.int .i64 (-1)))
set_option maxRecDepth 100000 in
set_option maxHeartbeats 8000000 in
theorem indexFunc_any (w : World) (lo base g : Nat) (lb : Array Value) (p : Hdl → Bool) (va : Option Addr) (vc : Nat) (l : List Hdl) (ho : OwnP w base (.slice va l.length vc) l) (hl : l.length ≤ 1000) (hlo : lo ≤ w.heap.size) (PH : PredH lo w g lb p l) :
    Calls Tryz.prog 180 #[.slice va l.length vc, .func (.func g) #[] lb] w fun e w' => IdxR p l e ∧ Below w.heap.size w w' := by
  obtain ⟨va', vc', e0, _, hf⟩ := ho.form
  simp only [Value.slice.injEq, true_and] at e0
  obtain ⟨rfl, rfl⟩ := e0
  have HC : Hid (∀ X, Below w.heap.size w X → ∀ (k : Nat) h, l[k]? = some h → ∃ g, va = some ⟨g, 0, none⟩ ∧ X.cell? ⟨g, k, none⟩ = some (.pointer (some ⟨h.b, h.o, none⟩))) := fun X hX k h hk => by
    rcases hf with e | ⟨g, e, _, hg, hc⟩
    · rw [e] at hk; simp at hk
    · exact ⟨g, e, by rw [hX.cell (p := ⟨g, k, none⟩) hg]; exact hc k h hk⟩
  have HP : Hid (∀ X, Below w.heap.size w X → ∀ h ∈ l, Calls Tryz.prog g (#[.pointer (some ⟨h.b, h.o, none⟩)] ++ lb) X fun e X' => e = .returned (.bool (p h)) ∧ Below X.heap.size X X') := fun X hX => PH.call X (hX.mono hlo)
  have eg := PH.eg
  clear hf ho PH
  obtain ⟨n, hn⟩ : ∃ n, l.length = n := ⟨_, rfl⟩
  rw [hn] at hl ⊢
  have HN : Hid (l.length = n) := hn
  clear hn
  go_enter Tryz.func180, Tryz.ntmps180
  go_wp2_with fail
  go_loopw [8] (fun i wr => ∃ A B, l = A ++ B ∧ i = .int .i64 (A.length : Int) ∧ (∀ a ∈ A, p a = false) ∧ Below w.heap.size w wr) (fun i _ => n - (intOf i).toNat)
  case atStart => exact ⟨[], l, rfl, rfl, by simp, Below.refl _ _⟩
  case round =>
    obtain ⟨A, B, hAB, rfl, hA, hb⟩ := hrel
    obtain ⟨k, hk⟩ : ∃ k, A.length = k := ⟨_, rfl⟩
    have hlen : n = k + B.length := by have := HN.out; rw [hAB, List.length_append] at this; omega
    rw [hk]
    cases B with
    | cons q B =>
      simp only [List.length_cons] at hlen
      have hkn : k < n := by omega
      clear hlen
      have hr : l[k]? = some q := by rw [hAB, ← hk]; exact mid_eq _ _ _
      obtain ⟨g', rfl, p1⟩ := HC.out wr hb k q hr
      have CP := HP.out wr hb q (List.mem_of_getElem? hr)
      have gk : (k : Int) < n := by omega
      have gk0 : (0 : Int) ≤ k := by omega
      have HB : Hid (Below w.heap.size w wr) := hb
      have HQ : Hid (l = A ++ q :: B ∧ A.length = k ∧ ∀ a ∈ A, p a = false) := ⟨hAB, hk, hA⟩
      clear hr hb hAB hk hA HC HP
      cases he : p q
      · rw [he] at CP
        have HF : Hid (l = (A ++ [q]) ++ B ∧ (A ++ [q]).length = k + 1 ∧ ∀ a ∈ A ++ [q], p a = false) := ⟨by rw [HQ.out.1]; simp, by simp [HQ.out.2.1], fun a ha => by
          rcases List.mem_append.1 ha with ha | ha
          · exact HQ.out.2.2 a ha
          · simp at ha; subst ha; exact he⟩
        clear HQ he
        go_wp2_with (go_at_fn g; refine CP.mono ?_; rintro e w2 ⟨rfl, hb2⟩)
        go_roundw
        case rel => exact ⟨A ++ [q], B, HF.out.1, by rw [HF.out.2.1]; go_num, HF.out.2.2, HB.out.trans (hb2.mono HB.out.size)⟩
        case measure => simp [intOf]; omega
      · rw [he] at CP
        have HF : Hid (IdxR p l (.returned (.int .i64 (k : Int)))) := .inl ⟨A, q, B, HQ.out.1, he, HQ.out.2.2, by rw [HQ.out.2.1]⟩
        clear HQ he
        go_wp2_with (go_at_fn g; refine CP.mono ?_; rintro e w2 ⟨rfl, hb2⟩)
        go_ret
        exact ⟨HF.out, HB.out.trans (hb2.mono HB.out.size)⟩
    | nil =>
      simp only [List.length_nil] at hlen
      have e : k = n := by omega
      clear hlen
      subst e
      simp only [List.append_nil] at hAB
      subst hAB
      have HF : Hid (IdxR p l (.returned (.int .i64 (-1)))) := .inr ⟨hA, rfl⟩
      have HB : Hid (Below w.heap.size w wr) := hb
      clear hA hk hb HC HP HN
      go_wp2_with fail
      go_ret
      exact ⟨HF.out, HB.out⟩
def keepH (p : Hdl → Bool) (l : List Hdl) : List Hdl := l.filter fun h => !p h
set_option maxRecDepth 100000 in
set_option maxHeartbeats 8000000 in
theorem deleteFunc_any (w : World) (lo base g : Nat) (lb : Array Value) (p : Hdl → Bool) (v : Value) (l : List Hdl) (ho : OwnP w base v l) (hl : l.length ≤ 1000) (hlo : lo ≤ w.heap.size) (hbl : lo ≤ base) (PH : PredH lo w g lb p l) :
    Calls Tryz.prog 166 #[v, .func (.func g) #[] lb] w fun e w' => (∃ v', e = .returned v' ∧ OwnP w' base v' (keepH p l) ∧ v'.ownBlock = v.ownBlock) ∧ w.grownBy w' v.ownBlock := by
  obtain ⟨va, vc, rfl, hvc, hf⟩ := ho.form
  have hzp : ∀ X : World, (zeroValue 87).run Tryz.prog X = .ok (.pointer none) X := fun X => by rfl
  have CI : Hid (Calls Tryz.prog 180 #[.slice va l.length vc, .func (.func g) #[] lb] w fun e w' => IdxR p l e ∧ Below w.heap.size w w') := indexFunc_any w lo base g lb p va vc l ho hl hlo PH
  have HO : Hid (OwnP w base (.slice va l.length vc) l) := ho
  have HPH : Hid (PredH lo w g lb p l) := PH
  have eg := PH.eg
  have HLO : Hid (lo ≤ w.heap.size ∧ lo ≤ base) := ⟨hlo, hbl⟩
  clear ho PH
  obtain ⟨n, hn⟩ : ∃ n, l.length = n := ⟨_, rfl⟩
  rw [hn] at hl hvc CI HO ⊢
  have HN : Hid (l.length = n) := hn
  clear hn
  go_enter Tryz.func166, Tryz.ntmps166
  go_wp2_with fail
  refine CI.out.mono ?_
  rintro e w1 ⟨hI, hb1⟩
  rcases hI with ⟨A, h0, B, hAB, hp0, hA, rfl⟩ | ⟨hall, rfl⟩
  · have hgn : ∃ G, va = some ⟨G, 0, none⟩ := by
      rcases hf with e | ⟨G, e, _⟩
      · rw [e] at hAB; simp at hAB
      · exact ⟨G, e⟩
    obtain ⟨G, rfl⟩ := hgn
    clear hf
    have HST : Hid (w1.ownsRow base 87 1 (.slice (some ⟨G, 0, none⟩) n vc) n ((keepH p A).map hP ++ [hP h0] ++ B.map hP)) := by
      have := HO.out.below hb1
      unfold OwnP at this
      rw [HN.out] at this
      have e : keepH p A = A := List.filter_eq_self.2 fun a ha => by simp [hA a ha]
      rw [e, show A.map hP ++ [hP h0] ++ B.map hP = l.map hP from by rw [hAB]; simp]
      exact this
    have hlA : A.length + 1 + B.length = n := by have := HN.out; rw [hAB] at this; simp at this; omega
    have hkA : (keepH p (A ++ [h0])).length = A.length := by
      unfold keepH
      rw [List.filter_append]
      have e : A.filter (fun h => !p h) = A := List.filter_eq_self.2 fun a ha => by simp [hA a ha]
      simp [e, hp0]
    have HK0 : Hid (∃ M B', B' = B ∧ l = (A ++ [h0]) ++ B' ∧ (keepH p (A ++ [h0])).length = A.length ∧ M.length + A.length = A.length + 1 ∧ 0 < M.length ∧ w1.ownsRow base 87 1 (.slice (some ⟨G, 0, none⟩) n vc) n ((keepH p (A ++ [h0])).map hP ++ M ++ B'.map hP) ∧ w.grownBy w1 (some G)) := by
      refine ⟨[hP h0], B, rfl, by rw [hAB]; simp, hkA, by simp; omega, by simp, ?_, grow_below _ hb1⟩
      have e : keepH p (A ++ [h0]) = keepH p A := by unfold keepH; rw [List.filter_append]; simp [hp0]
      rw [e]
      exact HST.out
    have gi1 : IntKind.i64.wrap ((A.length : Int) + 1) = (A.length : Int) + 1 := by unfold IntKind.wrap; simp [IntKind.signed, IntKind.bits]; omega
    have gne : ((A.length : Int) == -1) = false := beq_eq_false_iff_ne.2 (by omega)
    obtain ⟨i0, hi0⟩ : ∃ i, A.length = i := ⟨_, rfl⟩
    rw [hi0] at HK0 gi1 gne hlA ⊢
    clear HST CI hA hp0 hAB hkA HO
    go_wp2_with fail
    go_loopw [5, 6] (fun i j wr => ∃ C B M, l = C ++ B ∧ i = .int .i64 ((keepH p C).length : Int) ∧ j = .int .i64 (C.length : Int) ∧ (keepH p C).length + M.length = C.length ∧ 0 < M.length ∧ wr.ownsRow base 87 1 (.slice (some ⟨G, 0, none⟩) n vc) n ((keepH p C).map hP ++ M ++ B.map hP) ∧ w.grownBy wr (some G)) (fun _ j _ => n - (intOf j).toNat)
    case atStart =>
      obtain ⟨M, B', _, h1, h2, h3, h4, h5, h6⟩ := HK0.out
      exact ⟨A ++ [h0], B', M, h1, by rw [h2], by simp [hi0], by simp [h2, hi0]; omega, h4, h5, h6⟩
    case round =>
      obtain ⟨C, B, M, hCB, rfl, rfl, hM, hM0, hrow, hgr⟩ := hrel
      clear HK0
      obtain ⟨i, hi⟩ : ∃ i, (keepH p C).length = i := ⟨_, rfl⟩
      obtain ⟨j, hj⟩ : ∃ j, C.length = j := ⟨_, rfl⟩
      rw [hi, hj] at hM ⊢
      have hlen : n = j + B.length := by have := HN.out; rw [hCB, List.length_append] at this; omega
      have hbw : Below lo w wr := (Below.refl lo w).grown hgr HLO.out.1 (fun q hq => by
        have := (World.ownsRow.lt hrow q hq).1
        have := HLO.out.2
        omega)
      cases B with
      | cons q B =>
        simp only [List.length_cons] at hlen
        have hjn : j < n := by omega
        have hin : i < n := by omega
        have hij : i < j := by omega
        clear hlen
        have cj : wr.cell? ⟨G, j, none⟩ = some (.pointer (some ⟨q.b, q.o, none⟩)) := by
          rw [World.ownsRow.cellAt hrow j (by omega), List.getElem?_append_right (by simp; omega)]
          simp only [List.length_append, List.length_map, hi]
          rw [show j - (i + M.length) = 0 from by omega]
          rfl
        have CP := HPH.out.call wr hbw q (by rw [hCB]; simp)
        have gj : (j : Int) < n := by omega
        have gj0 : (0 : Int) ≤ j := by omega
        have gi : (i : Int) < n := by omega
        have gi0 : (0 : Int) ≤ i := by omega
        have HR : Hid (wr.ownsRow base 87 1 (.slice (some ⟨G, 0, none⟩) n vc) n ((keepH p C).map hP ++ M ++ (q :: B).map hP) ∧ w.grownBy wr (some G)) := ⟨hrow, hgr⟩
        have HQ : Hid (l = C ++ q :: B ∧ (keepH p C).length = i ∧ C.length = j ∧ i + M.length = j ∧ 0 < M.length) := ⟨hCB, hi, hj, hM, hM0⟩
        clear hrow hgr hbw hCB hi hj hM hM0
        cases he : p q
        · rw [he] at CP
          have HA : Hid (∀ X, Below wr.heap.size wr X → (∃ u, X.cell? ⟨G, i, none⟩ = some u) ∧ X.frozen? ⟨G, i, none⟩ = false ∧ (∃ M', l = (C ++ [q]) ++ B ∧ (keepH p (C ++ [q])).length = i + 1 ∧ (C ++ [q]).length = j + 1 ∧ i + 1 + M'.length = j + 1 ∧ 0 < M'.length ∧ (X.setCell ⟨G, i, none⟩ (.pointer (some ⟨q.b, q.o, none⟩))).ownsRow base 87 1 (.slice (some ⟨G, 0, none⟩) n vc) n ((keepH p (C ++ [q])).map hP ++ M' ++ B.map hP) ∧ w.grownBy (X.setCell ⟨G, i, none⟩ (.pointer (some ⟨q.b, q.o, none⟩))) (some G))) := fun X hX => by
            obtain ⟨q1, q2, q3, q4, q5⟩ := HQ.out
            have hrX := row_below HR.out.1 hX
            obtain ⟨m0, Mt, rfl⟩ : ∃ m0 Mt, M = m0 :: Mt := by cases M with
              | nil => simp at q5
              | cons a b => exact ⟨a, b, rfl⟩
            have hk : keepH p (C ++ [q]) = keepH p C ++ [q] := by unfold keepH; rw [List.filter_append]; simp [he]
            obtain ⟨s1, s2⟩ := World.ownsRow.stored hrX i (.pointer (some ⟨q.b, q.o, none⟩))
            refine ⟨⟨m0, ?_⟩, ?_, Mt ++ [hP q], by rw [q1]; simp, by rw [hk]; simp [q2], by simp [q3], by simp at q4 ⊢; omega, by simp, ?_, grow_trans (grow_trans HR.out.2 (grow_below _ hX)) s2⟩
            · rw [World.ownsRow.cellAt hrX i (by omega), List.append_assoc, List.getElem?_append_right (by simp; omega)]
              simp [q2]
            · exact World.ownsRow.frozenAt hrX i
            · have e : ((keepH p C).map hP ++ (m0 :: Mt) ++ (q :: B).map hP).set i (.pointer (some ⟨q.b, q.o, none⟩)) = (keepH p (C ++ [q])).map hP ++ (Mt ++ [hP q]) ++ B.map hP := by
                rw [hk, List.append_assoc, List.set_append_right _ _ (by simp; omega)]
                simp [q2, hP]
              rw [← e]
              exact s1
          clear HR HQ he
          go_wp2_with (go_at_fn g; refine CP.mono ?_; rintro e w2 ⟨rfl, hb2⟩; obtain ⟨⟨u, hu⟩, hfz, hnx⟩ := HA.out _ hb2; have HX : Hid _ := hnx; clear hnx)
          go_roundw
          case rel =>
            obtain ⟨M', h1, h2, h3, h4, h5, h6, h7⟩ := HX.out
            exact ⟨C ++ [q], B, M', h1, by rw [h2]; go_num, by rw [h3]; go_num, by rw [h2, h3]; exact h4, h5, h6, h7⟩
          case measure => simp [intOf]; omega
        · rw [he] at CP
          have HA : Hid (∀ X, Below wr.heap.size wr X → (∃ M', l = (C ++ [q]) ++ B ∧ (keepH p (C ++ [q])).length = i ∧ (C ++ [q]).length = j + 1 ∧ i + M'.length = j + 1 ∧ 0 < M'.length ∧ X.ownsRow base 87 1 (.slice (some ⟨G, 0, none⟩) n vc) n ((keepH p (C ++ [q])).map hP ++ M' ++ B.map hP) ∧ w.grownBy X (some G))) := fun X hX => by
            obtain ⟨q1, q2, q3, q4, q5⟩ := HQ.out
            have hk : keepH p (C ++ [q]) = keepH p C := by unfold keepH; rw [List.filter_append]; simp [he]
            refine ⟨M ++ [hP q], by rw [q1]; simp, by rw [hk]; exact q2, by simp [q3], by simp; omega, by simp, ?_, grow_trans HR.out.2 (grow_below _ hX)⟩
            have := row_below HR.out.1 hX
            rw [hk]
            rw [show (keepH p C).map hP ++ (M ++ [hP q]) ++ B.map hP = (keepH p C).map hP ++ M ++ (q :: B).map hP from by simp]
            exact this
          clear HR HQ he
          go_wp2_with (go_at_fn g; refine CP.mono ?_; rintro e w2 ⟨rfl, hb2⟩; have HX : Hid _ := HA.out _ hb2)
          go_roundw
          case rel =>
            obtain ⟨M', h1, h2, h3, h4, h5, h6, h7⟩ := HX.out
            exact ⟨C ++ [q], B, M', h1, by rw [h2], by rw [h3]; go_num, by rw [h2, h3]; exact h4, h5, h6, h7⟩
          case measure => simp [intOf]; omega
      | nil =>
        simp only [List.length_nil] at hlen
        have ejn : j = n := by omega
        have hin : i < n := by omega
        clear hlen
        subst ejn
        simp only [List.append_nil] at hCB
        subst hCB
        simp only [List.map_nil, List.append_nil] at hrow
        have hcl : ∀ ty, (Builtin.clear_ #[81] ty #[.slice (some ⟨G, i, none⟩) (j - i) (vc - i)]).run Tryz.prog wr = .ok (.tuple #[]) (wr.setCells G i (List.replicate (j - i) (.pointer none))) := fun ty => Lib.run_clear_slice wr _ _ ty _ Tryz.underlying81 hzp rfl rfl G i _ _ (by omega) (fun t ht => by rw [World.ownsRow.cellAt hrow (i + t) (by omega)]; rw [List.getElem?_eq_getElem (by simp [hi]; omega)]; rfl) (fun t ht => World.ownsRow.frozenAt hrow (i + t))
        have HF : Hid (OwnP (wr.setCells G i (List.replicate (j - i) (.pointer none))) base (.slice (some ⟨G, 0, none⟩) i vc) (keepH p l) ∧ w.grownBy (wr.setCells G i (List.replicate (j - i) (.pointer none))) (some G)) := by
          obtain ⟨ys, h1, h2, h3⟩ := row_setCells (List.replicate (j - i) (.pointer none)) i wr _ hrow
          refine ⟨?_, grow_trans hgr h3⟩
          have hc := row_cut h1 (i := i) (by omega)
          have ey : ys.take i = (keepH p l).map hP := by
            apply List.ext_getElem?
            intro k
            rw [List.getElem?_take]
            by_cases hk : k < i
            · rw [if_pos hk, h2 k hk, List.getElem?_append_left (by simp [hi]; omega)]
            · rw [if_neg hk, List.getElem?_eq_none (by simp [hi]; omega)]
          unfold OwnP
          rw [← ey, hi]
          exact hc
        have gi0 : (0 : Int) ≤ i := by omega
        have gi1 : (i : Int) ≤ j := by omega
        have gi2 : (i : Int) ≤ vc := by omega
        have gjv : (j : Int) ≤ vc := by omega
        have gne2 : ¬ vc = i := by omega
        clear hrow hgr hbw hM hM0 hi hj HPH
        go_wp2_with fail
        go_ret
        exact ⟨⟨_, rfl, HF.out.1, rfl⟩, HF.out.2⟩
  · have e : keepH p l = l := List.filter_eq_self.2 fun a ha => by simp [hall a ha]
    have HF : Hid (OwnP w1 base (.slice va n vc) (keepH p l) ∧ w.grownBy w1 (Value.slice va n vc).ownBlock) := by rw [e]; exact ⟨HO.out.below hb1, grow_below _ hb1⟩
    clear HO CI hall hf hb1 e
    go_wp2_with fail
    go_ret
    exact ⟨⟨_, rfl, HF.out.1, rfl⟩, HF.out.2⟩
end Go.Proofs.YtaphofdcoddopaaGreatDoor
/-
  Shelves from which those that are meant are taken; a store without them, by the program.
-/
namespace Go.Proofs.YtaphofdcoddopaaGreatDoor
open Go.ChangeShapes Go.WideShapes Go.ChangeAt Go.RowKit Go.Sort
/-- Two shelves in a variable. -/
structure H2 (w : World) (lo B : Nat) (v1 v2 : Value) (l1 l2 : List Hdl) : Prop where
  c0 : w.cell? ⟨B, 0, none⟩ = some v1
  c1 : w.cell? ⟨B, 1, none⟩ = some v2
  fr : ∀ o, w.frozen? ⟨B, o, none⟩ = false
  tp : TwoP w lo v1 v2 l1 l2
  lt : B < w.heap.size
  le : lo ≤ B
  n1 : v1.ownBlock ≠ some B
  n2 : v2.ownBlock ≠ some B
theorem H2.below {w w' : World} {lo B : Nat} {v1 v2 : Value} {l1 l2 : List Hdl} (h : H2 w lo B v1 v2 l1 l2) (hb : Below w.heap.size w w') : H2 w' lo B v1 v2 l1 l2 :=
  ⟨by rw [hb.cell (p := ⟨B, 0, none⟩) h.lt]; exact h.c0, by rw [hb.cell (p := ⟨B, 1, none⟩) h.lt]; exact h.c1, fun o => by rw [hb.frozen (p := ⟨B, o, none⟩) h.lt]; exact h.fr o, h.tp.below hb, Nat.lt_of_lt_of_le h.lt hb.size, h.le, h.n1, h.n2⟩
theorem H2.new {w : World} {lo : Nat} {v1 v2 : Value} {l1 l2 : List Hdl} (h : TwoP w lo v1 v2 l1 l2) (hlo : lo ≤ w.heap.size) (t : TypeId) : H2 (w.alloc (.cells #[v1, v2] t)) lo w.heap.size v1 v2 l1 l2 :=
  ⟨by simp, by simp, fun o => by simp, h.below ((Below.refl _ _).alloc (Nat.le_refl _) _), by simp, hlo, fun e => by have := h.a.lt _ e; omega, fun e => by have := h.b.lt _ e; omega⟩
/-- The first shelf is another one now. -/
theorem H2.setT {w w1 : World} {lo B : Nat} {v1 v2 u : Value} {l1 l2 m : List Hdl} (h : H2 w lo B v1 v2 l1 l2) (hg : w.grownBy w1 v1.ownBlock) (ho : OwnP w1 lo u m) (hu : u.ownBlock = v1.ownBlock ∨ ∀ q, u.ownBlock = some q → w.heap.size ≤ q) :
    w1.cell? ⟨B, 0, none⟩ = some v1 ∧ w1.frozen? ⟨B, 0, none⟩ = false ∧ H2 (w1.setCell ⟨B, 0, none⟩ u) lo B u v2 m l2 ∧ (lo ≤ w.heap.size → Below lo w (w1.setCell ⟨B, 0, none⟩ u)) := by
  have hBn : some B ≠ v1.ownBlock := fun e => h.n1 e.symm
  have k0 : w1.cell? ⟨B, 0, none⟩ = some v1 := hg.cell h.c0 hBn
  have k1 : w1.cell? ⟨B, 1, none⟩ = some v2 := hg.cell h.c1 hBn
  have kf : ∀ o, w1.frozen? ⟨B, o, none⟩ = false := fun o => (World.frozen?_of_block (hg.block B h.lt hBn)).trans (h.fr o)
  have nu : u.ownBlock ≠ some B := by
    rcases hu with e | e
    · rw [e]; exact h.n1
    · intro e2; have := e B e2; have := h.lt; omega
  have kb : OwnP w1 lo v2 l2 := World.ownsRow.kept h.tp.b hg (by
    rcases h.tp.ne with e | e
    · cases e2 : v2.ownBlock with
      | none => exact .inl rfl
      | some q => right; rw [e]; simp
    · exact .inr fun e2 => e e2.symm)
  refine ⟨k0, kf 0, ⟨World.cell?_setCell_same _ _ _ k0, by rw [World.cell?_setCell_other _ _ _ _ (by intro e; have := congrArg Addr.off e; simp at this)]; exact k1, fun o => by rw [World.frozen?_setCell]; exact kf o, ⟨row_far1 ho _ nu, row_far1 kb _ h.n2, ?_⟩, by simpa using Nat.lt_of_lt_of_le h.lt hg.size, h.le, nu, h.n2⟩, fun hlo => ?_⟩
  · rcases hu with e | e
    · rw [e]; exact h.tp.ne
    · cases e2 : u.ownBlock with
      | none => exact .inl rfl
      | some q => exact .inr fun e3 => by have := e q e2; have := h.tp.b.lt q e3.symm; omega
  · exact ((Below.refl lo w).grown hg hlo (fun q hq => own_geP h.tp.a q hq)).setCell h.le _
theorem H2.setK {w w1 : World} {lo B : Nat} {v1 v2 u : Value} {l1 l2 m : List Hdl} (h : H2 w lo B v1 v2 l1 l2) (hg : w.grownBy w1 v2.ownBlock) (ho : OwnP w1 lo u m) (hu : u.ownBlock = v2.ownBlock ∨ ∀ q, u.ownBlock = some q → w.heap.size ≤ q) :
    w1.cell? ⟨B, 1, none⟩ = some v2 ∧ w1.frozen? ⟨B, 1, none⟩ = false ∧ H2 (w1.setCell ⟨B, 1, none⟩ u) lo B v1 u l1 m ∧ (lo ≤ w.heap.size → Below lo w (w1.setCell ⟨B, 1, none⟩ u)) := by
  have hBn : some B ≠ v2.ownBlock := fun e => h.n2 e.symm
  have k0 : w1.cell? ⟨B, 0, none⟩ = some v1 := hg.cell h.c0 hBn
  have k1 : w1.cell? ⟨B, 1, none⟩ = some v2 := hg.cell h.c1 hBn
  have kf : ∀ o, w1.frozen? ⟨B, o, none⟩ = false := fun o => (World.frozen?_of_block (hg.block B h.lt hBn)).trans (h.fr o)
  have nu : u.ownBlock ≠ some B := by
    rcases hu with e | e
    · rw [e]; exact h.n2
    · intro e2; have := e B e2; have := h.lt; omega
  have ka : OwnP w1 lo v1 l1 := World.ownsRow.kept h.tp.a hg h.tp.ne
  refine ⟨k1, kf 1, ⟨by rw [World.cell?_setCell_other _ _ _ _ (by intro e; have := congrArg Addr.off e; simp at this)]; exact k0, World.cell?_setCell_same _ _ _ k1, fun o => by rw [World.frozen?_setCell]; exact kf o, ⟨row_far1 ka _ h.n1, row_far1 ho _ nu, ?_⟩, by simpa using Nat.lt_of_lt_of_le h.lt hg.size, h.le, h.n1, nu⟩, fun hlo => ?_⟩
  · rcases hu with e | e
    · rw [e]; exact h.tp.ne
    · cases e2 : v1.ownBlock with
      | none => exact .inl rfl
      | some q => exact .inr fun e3 => by have := e q e3.symm; have := h.tp.a.lt q e2; omega
  · exact ((Below.refl lo w).grown hg hlo (fun q hq => own_geP h.tp.b q hq)).setCell h.le _
theorem PredH.up {lo l2 : Nat} {w w' : World} {g : Nat} {lb : Array Value} {p : Hdl → Bool} {l : List Hdl} (h : PredH lo w g lb p l) (hl : lo ≤ l2) (hb : Below lo w w') : PredH l2 w' g lb p l := ⟨h.eg, fun X hX => h.call X (hb.trans (hX.mono hl))⟩
theorem keepH_len (p : Hdl → Bool) (l : List Hdl) : (keepH p l).length ≤ l.length := List.length_filter_le _ _
set_option maxHeartbeats 4000000 in
theorem takeAll_T (w : World) (lo B g : Nat) (lb : Array Value) (p : Hdl → Bool) (v1 v2 : Value) (l1 l2 : List Hdl) (h : H2 w lo B v1 v2 l1 l2) (hl : l1.length ≤ 1000) (hlo : lo ≤ w.heap.size) (PH : PredH lo w g lb p l1) :
    Calls Tryz.prog 154 #[.pointer (some ⟨B, 0, none⟩), .func (.func g) #[] lb] w fun e w' => e = .returned (.tuple #[]) ∧ (∃ u, H2 w' lo B u v2 (keepH p l1) l2) ∧ Below lo w w' := by
  have CD : Hid (Calls Tryz.prog 166 #[v1, .func (.func g) #[] lb] w fun e w' => (∃ a n c, e = .returned (.slice a n c) ∧ w'.cell? ⟨B, 0, none⟩ = some v1 ∧ w'.frozen? ⟨B, 0, none⟩ = false ∧ H2 (w'.setCell ⟨B, 0, none⟩ (.slice a n c)) lo B (.slice a n c) v2 (keepH p l1) l2 ∧ Below lo w (w'.setCell ⟨B, 0, none⟩ (.slice a n c)))) := by
    refine (deleteFunc_any w lo lo g lb p v1 l1 h.tp.a hl hlo (Nat.le_refl _) PH).mono ?_
    rintro e w' ⟨⟨v', rfl, ho, hv⟩, hg⟩
    obtain ⟨a, c, rfl, _⟩ := ho.form
    have := h.setT hg ho (.inl hv)
    exact ⟨a, _, c, rfl, this.1, this.2.1, this.2.2.1, this.2.2.2 hlo⟩
  have c0 := h.c0
  obtain ⟨a0, k0, e0, _⟩ := h.tp.a.form
  clear h PH hl hlo
  subst e0
  generalize l1.length = n1 at *
  go_enter Tryz.func154, Tryz.ntmps154
  go_wp2_with fail
  refine CD.out.mono ?_
  rintro e w1 ⟨a, n, c, rfl, y0, yf, hh, hb⟩
  have HX : Hid _ := And.intro hh hb
  clear hh hb CD c0
  go_wp2_with fail
  exact bodyPost_end (v := .tuple #[]) (by simp [results, Tryz.results154, go_sem]) rfl ⟨rfl, ⟨_, HX.out.1⟩, HX.out.2⟩
set_option maxHeartbeats 4000000 in
theorem takeAll_K (w : World) (lo B g : Nat) (lb : Array Value) (p : Hdl → Bool) (v1 v2 : Value) (l1 l2 : List Hdl) (h : H2 w lo B v1 v2 l1 l2) (hl : l2.length ≤ 1000) (hlo : lo ≤ w.heap.size) (PH : PredH lo w g lb p l2) :
    Calls Tryz.prog 154 #[.pointer (some ⟨B, 1, none⟩), .func (.func g) #[] lb] w fun e w' => e = .returned (.tuple #[]) ∧ (∃ u, H2 w' lo B v1 u l1 (keepH p l2)) ∧ Below lo w w' := by
  have CD : Hid (Calls Tryz.prog 166 #[v2, .func (.func g) #[] lb] w fun e w' => (∃ a n c, e = .returned (.slice a n c) ∧ w'.cell? ⟨B, 1, none⟩ = some v2 ∧ w'.frozen? ⟨B, 1, none⟩ = false ∧ H2 (w'.setCell ⟨B, 1, none⟩ (.slice a n c)) lo B v1 (.slice a n c) l1 (keepH p l2) ∧ Below lo w (w'.setCell ⟨B, 1, none⟩ (.slice a n c)))) := by
    refine (deleteFunc_any w lo lo g lb p v2 l2 h.tp.b hl hlo (Nat.le_refl _) PH).mono ?_
    rintro e w' ⟨⟨v', rfl, ho, hv⟩, hg⟩
    obtain ⟨a, c, rfl, _⟩ := ho.form
    have := h.setK hg ho (.inl hv)
    exact ⟨a, _, c, rfl, this.1, this.2.1, this.2.2.1, this.2.2.2 hlo⟩
  have c1 := h.c1
  obtain ⟨a0, k0, e0, _⟩ := h.tp.b.form
  clear h PH hl hlo
  subst e0
  generalize l2.length = n2 at *
  go_enter Tryz.func154, Tryz.ntmps154
  go_wp2_with fail
  refine CD.out.mono ?_
  rintro e w1 ⟨a, n, c, rfl, y0, yf, hh, hb⟩
  have HX : Hid _ := And.intro hh hb
  clear hh hb CD c1
  go_wp2_with fail
  exact bodyPost_end (v := .tuple #[]) (by simp [results, Tryz.results154, go_sem]) rfl ⟨rfl, ⟨_, HX.out.1⟩, HX.out.2⟩
theorem keepH_x (p : Ent → Bool) (l : List Hdl) : (keepH (fun h => p h.x) l).map Hdl.x = (l.map Hdl.x).filter fun x => !p x := by
  unfold keepH
  rw [List.filter_map]
  rfl
theorem keepH_mem {p : Hdl → Bool} {l : List Hdl} {h : Hdl} (hh : h ∈ keepH p l) : h ∈ l := (List.mem_filter.1 hh).1
/-- What a function value is told of while a store is purged: the entries of a right store. -/
structure StoOk (w : World) (ta ka : Option Addr) (tl kl : List (Ent × EntR)) : Prop where
  t : EntsIn w ta tl
  k : EntsIn w ka kl
  n : tl.length + kl.length ≤ 40
  z : ∀ h ∈ hdl2 ta ka tl kl, entC h.x = 0
  ts : ∀ h ∈ hdl2 ta ka tl kl, ∀ t ∈ h.x.ts, t.size ≤ 1048576
theorem StoOk.keep {w w' : World} {ta ka : Option Addr} {tl kl : List (Ent × EntR)} (h : StoOk w ta ka tl kl) (hb : Below w.heap.size w w') : StoOk w' ta ka tl kl := ⟨h.t.keep hb, h.k.keep hb, h.n, h.z, h.ts⟩
set_option maxRecDepth 100000 in
set_option maxHeartbeats 8000000 in
theorem takenOut_any (w : World) (B0 g : Nat) (lb : Array Value) (p : Ent → Bool) (C : World → Prop) (bu gu : Int) (ta ka : Option Addr) (tc kc : Nat) (tl kl : List (Ent × EntR)) (hS : StoOk w ta ka tl kl) (PF : PredF B0 g lb p C) (hC : C w) (hB0 : B0 ≤ w.heap.size) :
    Calls Tryz.prog 130 #[.agg #[.int .i64 bu, .int .i64 gu, .slice ta tl.length tc, .slice ka kl.length kc], .func (.func g) #[] lb] w fun e w' => (∃ a1 k1 n1 a2 k2 n2 m1 m2, e = .returned (.agg #[.int .i64 bu, .int .i64 gu, .slice a1 n1 k1, .slice a2 n2 k2]) ∧ m1.map Prod.fst = (tl.map Prod.fst).filter (fun x => !p x) ∧ m2.map Prod.fst = (kl.map Prod.fst).filter (fun x => !p x) ∧ StoLV w' w.heap.size (.slice a1 n1 k1) (.slice a2 n2 k2) m1 m2) ∧ Below w.heap.size w w' := by
  have hn := hS.n
  have hzs : ∀ h ∈ hdl2 ta ka tl kl, h.x.ts.length ≤ 1048576 := fun h hh => (entC_sizes (hS.z h hh)).2
  have PH0 := PF.h (l := hdl2 ta ka tl kl) hC hB0 (hdl2_there hS.t hS.k) hzs
  obtain ⟨W, hW⟩ : ∃ W, W = (w.alloc (.cells #[.int .i64 bu, .int .i64 gu, .slice ta tl.length tc, .slice ka kl.length kc] 28)).alloc (.cells #[.int .i64 0, .int .i64 0, .slice none 0 0, .slice none 0 0] 28) := ⟨_, rfl⟩
  have HW : Hid (W = (w.alloc (.cells #[.int .i64 bu, .int .i64 gu, .slice ta tl.length tc, .slice ka kl.length kc] 28)).alloc (.cells #[.int .i64 0, .int .i64 0, .slice none 0 0, .slice none 0 0] 28)) := hW
  have K0 : Hid (Below w.heap.size w W ∧ S4 W w.heap.size (.int .i64 bu) (.int .i64 gu) (.slice ta tl.length tc) (.slice ka kl.length kc) ∧ S4 W (w.heap.size + 1) (.int .i64 0) (.int .i64 0) (.slice none 0 0) (.slice none 0 0) ∧ W.heap.size = w.heap.size + 2) := by
    rw [hW]
    refine ⟨((Below.refl _ _).alloc (Nat.le_refl _) _).alloc (by simp) _, (S4.new w _ _ _ _ _).keep ((Below.refl _ _).alloc (Nat.le_refl _) _), ?_, by simp⟩
    have := S4.new (w.alloc (.cells #[.int .i64 bu, .int .i64 gu, .slice ta tl.length tc, .slice ka kl.length kc] 28)) (.int .i64 0) (.int .i64 0) (.slice none 0 0) (.slice none 0 0) 28
    simpa using this
  have CS : Hid (Calls Tryz.prog 52 #[.agg #[.int .i64 bu, .int .i64 gu, .slice ta tl.length tc, .slice ka kl.length kc]] W fun e w' => (∃ a1 c1 d1 a2 c2 d2, e = .returned (.agg #[.slice a1 c1 d1, .slice a2 c2 d2]) ∧ TwoP w' W.heap.size (.slice a1 c1 d1) (.slice a2 c2 d2) (hdlsA ta tl) (hdlsA ka kl)) ∧ Below W.heap.size W w') := by
    refine (shelvesOf_any W bu gu ta ka tc kc tl kl (by omega) (by omega) (hS.t.keep K0.out.1) (hS.k.keep K0.out.1)).mono ?_
    rintro e w' ⟨⟨v1, v2, rfl, h2⟩, hb'⟩
    obtain ⟨a1, d1, rfl, _⟩ := h2.a.form
    obtain ⟨a2, d2, rfl, _⟩ := h2.b.form
    exact ⟨⟨a1, _, d1, a2, _, d2, rfl, h2⟩, hb'⟩
  have HT : Hid (∀ X B v1 v2, Below w.heap.size w X → H2 X W.heap.size B v1 v2 (hdlsA ta tl) (hdlsA ka kl) → W.heap.size ≤ X.heap.size → Calls Tryz.prog 154 #[.pointer (some ⟨B, 0, none⟩), .func (.func g) #[] lb] X fun e w' => e = .returned (.tuple #[]) ∧ (∃ u, H2 w' W.heap.size B u v2 (keepH (fun h => p h.x) (hdlsA ta tl)) (hdlsA ka kl)) ∧ Below W.heap.size X w') := fun X B v1 v2 hX h hl => takeAll_T X W.heap.size B g lb _ v1 v2 _ _ h (by rw [hdlsA_len]; omega) hl ((PH0.sub (m := hdlsA ta tl) (fun x hx => List.mem_append_left _ hx)).up (by have := K0.out.2.2.2; omega) hX)
  have HK : Hid (∀ X B v1 v2 m, Below w.heap.size w X → H2 X W.heap.size B v1 v2 m (hdlsA ka kl) → W.heap.size ≤ X.heap.size → Calls Tryz.prog 154 #[.pointer (some ⟨B, 1, none⟩), .func (.func g) #[] lb] X fun e w' => e = .returned (.tuple #[]) ∧ (∃ u, H2 w' W.heap.size B v1 u m (keepH (fun h => p h.x) (hdlsA ka kl))) ∧ Below W.heap.size X w') := fun X B v1 v2 m hX h hl => takeAll_K X W.heap.size B g lb _ v1 v2 _ _ h (by rw [hdlsA_len]; omega) hl ((PH0.sub (m := hdlsA ka kl) (fun x hx => List.mem_append_right _ hx)).up (by have := K0.out.2.2.2; omega) hX)
  have HSL : Hid (∀ X v1 v2 base, Below w.heap.size w X → TwoP X base v1 v2 (keepH (fun h => p h.x) (hdlsA ta tl)) (keepH (fun h => p h.x) (hdlsA ka kl)) → Calls Tryz.prog 54 #[.agg #[v1, v2], .agg #[.int .i64 bu, .int .i64 gu, .slice ta tl.length tc, .slice ka kl.length kc]] X fun e w' => (∃ a1 k1 n1 a2 k2 n2 m1 m2, e = .returned (.agg #[.int .i64 bu, .int .i64 gu, .slice a1 n1 k1, .slice a2 n2 k2]) ∧ m1.map Prod.fst = (tl.map Prod.fst).filter (fun x => !p x) ∧ m2.map Prod.fst = (kl.map Prod.fst).filter (fun x => !p x) ∧ StoLV w' X.heap.size (.slice a1 n1 k1) (.slice a2 n2 k2) m1 m2) ∧ Below X.heap.size X w') := fun X v1 v2 base hb h => by
    have hm : ∀ h ∈ keepH (fun h => p h.x) (hdlsA ta tl) ++ keepH (fun h => p h.x) (hdlsA ka kl), h ∈ hdl2 ta ka tl kl := fun h hh => by
      rcases List.mem_append.1 hh with hh | hh
      · exact List.mem_append_left _ (keepH_mem hh)
      · exact List.mem_append_right _ (keepH_mem hh)
    have q1 := keepH_len (fun h => p h.x) (hdlsA ta tl)
    have q2 := keepH_len (fun h => p h.x) (hdlsA ka kl)
    rw [hdlsA_len] at q1 q2
    refine (storeLike_any X v1 v2 base _ _ bu gu ta ka tc kc tl.length kl.length h (by omega) (fun x hx => (hdl2_there hS.t hS.k x (hm x hx)).keep hb) (fun x hx => hS.z x (hm x hx)) (fun x hx => hS.ts x (hm x hx))).mono ?_
    rintro e w' ⟨⟨a1, k1, n1, a2, k2, n2, m1, m2, rfl, q1, q2, o⟩, hb'⟩
    exact ⟨⟨a1, k1, n1, a2, k2, n2, m1, m2, rfl, by rw [q1, keepH_x, hdlsA_x], by rw [q2, keepH_x, hdlsA_x], o.lv⟩, hb'⟩
  have e0 := K0.out.2.1.c0
  have e1 := K0.out.2.1.c1
  have e2 := K0.out.2.1.c2
  have e3 := K0.out.2.1.c3
  rw [HW.out] at e0 e1 e2 e3
  clear hW hS PF hC hB0 hn hzs PH0
  generalize tl.length = tn at *
  generalize kl.length = kn at *
  go_enter Tryz.func130, Tryz.ntmps130
  go_wp2_with fail
  rw [← HW.out]
  refine CS.out.mono ?_
  rintro r0 w2 ⟨⟨a1, c1, d1, a2, c2, d2, rfl, tp⟩, hb2⟩
  obtain ⟨V2, hV2⟩ : ∃ V, V = w2.alloc (.cells #[.slice a1 c1 d1, .slice a2 c2 d2] 85) := ⟨_, rfl⟩
  have HV2 : Hid (V2 = w2.alloc (.cells #[.slice a1 c1 d1, .slice a2 c2 d2] 85)) := hV2
  have aV : Below w2.heap.size w2 V2 := by rw [hV2]; exact (Below.refl _ _).alloc (Nat.le_refl _) _
  have bV : Below W.heap.size W V2 := hb2.trans (aV.mono hb2.size)
  have hh2 : H2 V2 W.heap.size w2.heap.size (.slice a1 c1 d1) (.slice a2 c2 d2) (hdlsA ta tl) (hdlsA ka kl) := by rw [hV2]; exact H2.new tp hb2.size _
  have K2 : Hid (Below W.heap.size W V2) := bV
  have bw : Below w.heap.size w V2 := K0.out.1.trans (bV.mono K0.out.1.size)
  have C1 := HT.out V2 w2.heap.size _ _ bw hh2 bV.size
  have HKW : Hid (∀ X, Below W.heap.size W X → Below w.heap.size w X ∧ S4 X w.heap.size (.int .i64 bu) (.int .i64 gu) (.slice ta tn tc) (.slice ka kn kc) ∧ S4 X (w.heap.size + 1) (.int .i64 0) (.int .i64 0) (.slice none 0 0) (.slice none 0 0) ∧ w.heap.size + 2 ≤ W.heap.size) := fun X hX => ⟨K0.out.1.trans (hX.mono K0.out.1.size), K0.out.2.1.keep hX, K0.out.2.2.1.keep hX, by have := K0.out.2.2.2; omega⟩
  clear hV2 aV bV hh2 bw hb2 tp CS K0 e0 e1 e2 e3 HW HT
  go_wp2_with fail
  rw [← HV2.out]
  refine C1.mono ?_
  rintro r0 w3 ⟨rfl, ⟨u1, hh3⟩, hb3⟩
  have b3 : Below W.heap.size W w3 := K2.out.trans hb3
  have C2 := HK.out w3 w2.heap.size _ _ _ (HKW.out _ b3).1 hh3 b3.size
  have K3 : Hid (Below W.heap.size W w3) := b3
  clear C1 HK hh3 hb3 b3 K2 HV2
  go_wp2_with fail
  refine C2.mono ?_
  rintro r0 w4 ⟨rfl, ⟨u2, hh4⟩, hb4⟩
  have b4 : Below W.heap.size W w4 := K3.out.trans hb4
  obtain ⟨f1, g1, rfl, _⟩ := hh4.tp.a.form
  obtain ⟨f2, g2, rfl, _⟩ := hh4.tp.b.form
  have C3 := HSL.out w4 _ _ _ (HKW.out _ b4).1 hh4.tp
  have y0 := hh4.c0
  have y1 := hh4.c1
  have sS := (HKW.out _ b4).2.1
  have e0 := sS.c0
  have e1 := sS.c1
  have e2 := sS.c2
  have e3 := sS.c3
  have K4 : Hid (Below W.heap.size W w4) := b4
  generalize (keepH (fun h => p h.x) (hdlsA ta tl)).length = q1 at *
  generalize (keepH (fun h => p h.x) (hdlsA ka kl)).length = q2 at *
  clear C2 HSL hh4 hb4 b4 K3 sS
  go_wp2_with fail
  refine C3.mono ?_
  rintro r0 w5 ⟨⟨b1, k1, n1, b2, k2, n2, m1, m2, rfl, x1, x2, o⟩, hb5⟩
  have b5 : Below W.heap.size W w5 := K4.out.trans (hb5.mono K4.out.size)
  obtain ⟨bw, _, s4, hsz⟩ := HKW.out _ b5
  have HO : Hid (StoLV w5 w4.heap.size (.slice b1 n1 k1) (.slice b2 n2 k2) m1 m2 ∧ m1.map Prod.fst = (tl.map Prod.fst).filter (fun x => !p x) ∧ m2.map Prod.fst = (kl.map Prod.fst).filter (fun x => !p x) ∧ w.heap.size + 1 < w4.heap.size ∧ Below w.heap.size w w5) := ⟨o, x1, x2, by have := K4.out.size; omega, bw⟩
  have z0 := s4.c0
  have z1 := s4.c1
  have z2 := s4.c2
  have z3 := s4.c3
  have zf0 := s4.fr 0
  have zf1 := s4.fr 1
  have zf2 := s4.fr 2
  have zf3 := s4.fr 3
  clear s4 o x1 x2 hb5 b5 K4 C3 y0 y1 e0 e1 e2 e3 HKW bw hsz
  go_wp2_with fail
  refine bodyPost_ret (v := .agg #[.int .i64 bu, .int .i64 gu, .slice b1 n1 k1, .slice b2 n2 k2]) (by simp [results, Tryz.results130, go_sem, z0, z1, z2, z3]) rfl ?_
  obtain ⟨o, x1, x2, hlt, hB⟩ := HO.out
  exact ⟨⟨b1, k1, n1, b2, k2, n2, m1, m2, rfl, x1, x2, ((((o.off1 _ hlt).off1 _ hlt).off1 _ hlt).off1 _ hlt).lower (by omega)⟩, (((hB.setCell (by simp) _).setCell (by simp) _).setCell (by simp) _).setCell (by simp) _⟩
end Go.Proofs.YtaphofdcoddopaaGreatDoor
/-
  Purges, by the model: entries turned, entries taken out.
-/
namespace Go.Proofs.YtaphofdcoddopaaGreatDoor
open Go.ChangeShapes Go.WideShapes Go.ChangeAt Go.RowKit Go.Sort
def softE (x : Ent) : Ent := { x with b1 := true }
def inK (ks : List ByteArray) (x : Ent) : Bool := tagB ks x.key
set_option maxRecDepth 100000 in
set_option maxHeartbeats 8000000 in
theorem l9Soft_o (w : World) (base G cap : Nat) (a : Option Addr) (kc : Nat) (ks : List ByteArray) (m : List (Ent × EntR)) (hm : m.length ≤ 1000) (hks : ks.length ≤ 1000) (h : EntsLV w base (.slice (some ⟨G, 0, none⟩) m.length cap) m) (hbs : base ≤ w.heap.size) (hk : ∀ X, Below base w X → TIn X a ks) :
    Calls Tryz.prog 153 #[.slice (some ⟨G, 0, none⟩) m.length cap, .slice a ks.length kc] w fun e w' => e = .returned (.tuple #[]) ∧ EntsLV w' base (.slice (some ⟨G, 0, none⟩) m.length cap) (turnM (inK ks) softE m) ∧ Out [G] w w' ∧ Below base w w' := by
  have HK : Hid (∀ X, Below base w X → TIn X a ks) := hk
  have HBS : Hid (base ≤ w.heap.size) := hbs
  obtain ⟨n, hn0⟩ : ∃ n, m.length = n := ⟨_, rfl⟩
  rw [hn0] at hm h ⊢
  have HN : Hid (m.length = n) := hn0
  have HST : Hid (EntsLV w base (.slice (some ⟨G, 0, none⟩) n cap) m) := h
  obtain ⟨kn, hkn⟩ : ∃ n, ks.length = n := ⟨_, rfl⟩
  have HKN : Hid (ks.length = kn) := hkn
  rw [hkn] at hks ⊢
  clear hn0 h hk hbs hkn
  go_enter Tryz.func153, Tryz.ntmps153
  go_wp2_with fail
  go_loopw [4] (fun i wr => ∃ A B : List (Ent × EntR), m = A ++ B ∧ i = .int .i64 (A.length : Int) ∧ EntsLV wr base (.slice (some ⟨G, 0, none⟩) n cap) (turnM (inK ks) softE A ++ B) ∧ Out [G] w wr ∧ Below base w wr) (fun i _ => n - (intOf i).toNat)
  case atStart => exact ⟨[], m, rfl, rfl, HST.out, Out.refl _ _, Below.refl _ _⟩
  case round =>
    obtain ⟨A, B, hAB, rfl, ho, hout, hb⟩ := hrel
    clear HST
    obtain ⟨k, hk⟩ : ∃ k, A.length = k := ⟨_, rfl⟩
    have hlen : n = k + B.length := by have := HN.out; rw [hAB, List.length_append] at this; omega
    rw [hk]
    cases B with
    | cons q B =>
      obtain ⟨x, r⟩ := q
      simp only [List.length_cons] at hlen
      have hkn : k < n := by omega
      clear hlen
      have hkA : (turnM (inK ks) softE A).length = k := by rw [turnM_len, hk]
      have cells := ho.at.2.2.2.2.1 k (x, r) (by rw [← hkA]; exact mid_eq _ _ _)
      have c0 : wr.cell? ⟨G, k * 13, none⟩ = some (.string x.key) := cells 0 (by omega)
      have c9 : wr.cell? ⟨G, k * 13 + 9, none⟩ = some (.bool x.b1) := cells 9 (by omega)
      have fz := ho.at.2.2.2.2.2 (k * 13 + 9)
      have CT : Hid (Calls Tryz.prog 126 #[.slice a kn kc, .string x.key] wr fun e w' => e = .returned (.bool (inK ks x)) ∧ w' = wr) := by
        have := specTagged_any wr a kc ks x.key (by have := HKN.out; omega) (HK.out wr hb)
        rw [HKN.out] at this
        exact this
      have gk : (k : Int) < n := by omega
      have gk0 : (0 : Int) ≤ k := by omega
      have HQ : Hid (m = A ++ (x, r) :: B ∧ A.length = k ∧ EntsLV wr base (.slice (some ⟨G, 0, none⟩) n cap) (turnM (inK ks) softE A ++ (x, r) :: B) ∧ Out [G] w wr ∧ Below base w wr ∧ base ≤ G) := ⟨hAB, hk, ho, hout, hb, ho.at.2.2.1⟩
      clear hAB hk ho hout hb cells hkA
      have tapp : turnM (inK ks) softE (A ++ [(x, r)]) = turnM (inK ks) softE A ++ [(if inK ks x then softE x else x, r)] := by unfold turnM; rw [List.map_append]; rfl
      cases he : inK ks x
      · rw [he] at CT tapp
        have HA : Hid (m = (A ++ [(x, r)]) ++ B ∧ (A ++ [(x, r)]).length = k + 1 ∧ EntsLV wr base (.slice (some ⟨G, 0, none⟩) n cap) (turnM (inK ks) softE (A ++ [(x, r)]) ++ B) ∧ Out [G] w wr ∧ Below base w wr) := by
          obtain ⟨h1, h2, h3, h4, h5, _⟩ := HQ.out
          refine ⟨by rw [h1]; simp, by simp [h2], ?_, h4, h5⟩
          rw [tapp]
          simpa using h3
        clear HQ he tapp c9 fz
        generalize x.key = xk at *
        go_wp2_with fail
        refine CT.out.mono ?_
        rintro e w2 ⟨rfl, rfl⟩
        clear CT
        go_wp2_with fail
        go_roundw
        case rel => exact ⟨A ++ [(x, r)], B, HA.out.1, by rw [HA.out.2.1]; go_num, HA.out.2.2.1, HA.out.2.2.2.1, HA.out.2.2.2.2⟩
        case measure => simp [intOf]; omega
      · rw [he] at CT tapp
        have HA : Hid (m = (A ++ [(x, r)]) ++ B ∧ (A ++ [(x, r)]).length = k + 1 ∧ EntsLV (wr.setCell ⟨G, k * 13 + 9, none⟩ (.bool true)) base (.slice (some ⟨G, 0, none⟩) n cap) (turnM (inK ks) softE (A ++ [(x, r)]) ++ B) ∧ Out [G] w (wr.setCell ⟨G, k * 13 + 9, none⟩ (.bool true)) ∧ Below base w (wr.setCell ⟨G, k * 13 + 9, none⟩ (.bool true))) := by
          obtain ⟨h1, h2, h3, h4, h5, h6⟩ := HQ.out
          refine ⟨by rw [h1]; simp, by simp [h2], ?_, h4.trans (Out.set _ _ _ _), h5.setCell h6 _⟩
          rw [tapp]
          have := h3.set (k := k) (by rw [turnM_len, h2]) 9 (by omega) (.bool true) (softE x) rfl rfl rfl rfl
          simpa using this
        clear HQ he tapp
        generalize x.key = xk at *
        go_wp2_with fail
        refine CT.out.mono ?_
        rintro e w2 ⟨rfl, rfl⟩
        clear CT
        go_wp2_with fail
        go_roundw
        case rel => exact ⟨A ++ [(x, r)], B, HA.out.1, by rw [HA.out.2.1]; go_num, HA.out.2.2.1, HA.out.2.2.2.1, HA.out.2.2.2.2⟩
        case measure => simp [intOf]; omega
    | nil =>
      simp only [List.length_nil] at hlen
      have e : k = n := by omega
      clear hlen
      subst e
      simp only [List.append_nil] at hAB ho
      subst hAB
      have HE : Hid (EntsLV wr base (.slice (some ⟨G, 0, none⟩) k cap) (turnM (inK ks) softE m) ∧ Out [G] w wr ∧ Below base w wr) := ⟨ho, hout, hb⟩
      clear ho hout hb hk HN HK
      go_wp2_with fail
      exact bodyPost_end (v := .tuple #[]) (by simp [results, Tryz.results153, go_sem]) rfl ⟨rfl, HE.out⟩
set_option maxHeartbeats 1000000 in
theorem l9Soft_nil (w : World) (a b : Option Addr) (c d n : Nat) : Calls Tryz.prog 153 #[.slice a 0 c, .slice b n d] w fun e w' => e = .returned (.tuple #[]) ∧ Below w.heap.size w w' := by
  go_enter Tryz.func153, Tryz.ntmps153
  go_wp2_with fail
  go_loop [4] (fun i => i = .int .i64 0) (fun _ => 0)
  case atStart => exact rfl
  case round =>
    obtain rfl := hrel
    go_wp2_with fail
    exact bodyPost_end (v := .tuple #[]) (by simp [results, Tryz.results153, go_sem]) rfl ⟨rfl, Below.refl _ _⟩
theorem fp_turnM (v : Value) (p : Ent → Bool) (f : Ent → Ent) (m : List (Ent × EntR)) : fp v (turnM p f m) = fp v m := by unfold fp; rw [foot_turnM]
theorem l9Soft_v (w : World) (base n c : Nat) (v a : Option Addr) (kc : Nat) (ks : List ByteArray) (m : List (Ent × EntR)) (hm : m.length ≤ 1000) (hks : ks.length ≤ 1000) (h : EntsLV w base (.slice v n c) m) (hbs : base ≤ w.heap.size) (hk : ∀ X, Below base w X → TIn X a ks) :
    Calls Tryz.prog 153 #[.slice v n c, .slice a ks.length kc] w fun e w' => e = .returned (.tuple #[]) ∧ EntsLV w' base (.slice v n c) (turnM (inK ks) softE m) ∧ Out (fp (.slice v n c) m) w w' ∧ Below base w w' := by
  rcases h.form with ⟨e, rfl⟩ | ⟨g, c', e, _⟩
  · simp only [Value.slice.injEq] at e
    obtain ⟨rfl, rfl, rfl⟩ := e
    exact (l9Soft_nil w none a 0 kc _).mono fun _ _ ⟨h1, h2⟩ => ⟨h1, h.below h2, .below h2, h2.mono hbs⟩
  · simp only [Value.slice.injEq] at e
    obtain ⟨rfl, rfl, rfl⟩ := e
    refine (l9Soft_o w base g c a kc ks m hm hks h hbs hk).mono ?_
    rintro e w' ⟨h1, h2, h3, h4⟩
    exact ⟨h1, h2, h3.mono (fun b hb => by simp at hb; subst hb; simp [fp, Value.ownBlock]), h4⟩
/-! ### keys taken out one behind the other -/
def offKs (ks : List ByteArray) (m : List (Ent × EntR)) : List (Ent × EntR) := m.filter fun q => !inK ks q.1
theorem isKey_iff {key : ByteArray} {x : Ent} : isKey key x = decide (key = x.key) := by
  unfold isKey
  by_cases h : key = x.key
  · subst h; simp
  · rw [decide_eq_false h, beq_eq_false_iff_ne]
    intro e
    rw [ByteArray.toList_eq, ByteArray.toList_eq] at e
    exact h (ByteArray.ext (Array.ext' e)).symm
theorem offKs_next {ks : List ByteArray} {j : Nat} {key : ByteArray} {m : List (Ent × EntR)} (h : ks[j]? = some key) : offKey key (offKs (ks.take j) m) = offKs (ks.take (j + 1)) m := by
  unfold offKey offKs
  rw [List.filter_filter, take_next h]
  congr 1
  funext q
  unfold inK tagB
  rw [List.any_append, isKey_iff]
  simp [Bool.and_comm]
theorem offKs_nil (m : List (Ent × EntR)) : offKs [] m = m := by unfold offKs; exact List.filter_eq_self.2 fun q _ => by simp [inK, tagB]
theorem offKs_map (ks : List ByteArray) (m : List (Ent × EntR)) : (offKs ks m).map Prod.fst = (m.map Prod.fst).filter fun x => !inK ks x := by
  unfold offKs
  rw [List.filter_map]
  rfl
theorem foot_offKs {ks : List ByteArray} {l : List (Ent × EntR)} {b : Nat} (h : b ∈ foot (offKs ks l)) : b ∈ foot l := (foot_sub List.filter_sublist).subset h
set_option maxRecDepth 100000 in
set_option maxHeartbeats 8000000 in
theorem l9Hard_at (w : World) (B base : Nat) (bu gu : Int) (v1 v2 : Value) (l1 l2 : List (Ent × EntR)) (a : Option Addr) (kc : Nat) (ks : List ByteArray) (hks : ks.length ≤ 1000) (hs : S4 w B (.int .i64 bu) (.int .i64 gu) v1 v2) (h : StoO w base v1 v2 l1 l2) (hbase : base ≤ w.heap.size) (hbB : base ≤ B) (hB1 : B ∉ v1.ownBlock.toList ++ foot l1) (hB2 : B ∉ v2.ownBlock.toList ++ foot l2) (n1 : l1.length ≤ 1048576) (n2 : l2.length ≤ 1048576) (hk : ∀ X, Below base w X → TIn X a ks) :
    Calls Tryz.prog 129 #[.pointer (some ⟨B, 0, none⟩), .slice a ks.length kc, .bool true] w fun e w' => e = .returned (.tuple #[]) ∧ (∃ a1 k1 n1 a2 k2 n2, S4 w' B (.int .i64 bu) (.int .i64 gu) (.slice a1 n1 k1) (.slice a2 n2 k2) ∧ StoLV w' base (.slice a1 n1 k1) (.slice a2 n2 k2) (offKs ks l1) (offKs ks l2)) ∧ Below base w w' := by
  have HK : Hid (∀ X, Below base w X → TIn X a ks) := hk
  have HBS : Hid (base ≤ w.heap.size ∧ base ≤ B) := ⟨hbase, hbB⟩
  have HL : Hid (l1.length ≤ 1048576 ∧ l2.length ≤ 1048576) := ⟨n1, n2⟩
  have HST : Hid (∃ u1 u2, S4 w B (.int .i64 bu) (.int .i64 gu) u1 u2 ∧ StoO w base u1 u2 (offKs (ks.take 0) l1) (offKs (ks.take 0) l2) ∧ B ∉ u1.ownBlock.toList ++ foot (offKs (ks.take 0) l1) ∧ B ∉ u2.ownBlock.toList ++ foot (offKs (ks.take 0) l2)) := by
    refine ⟨v1, v2, hs, ?_⟩
    rw [List.take_zero, offKs_nil, offKs_nil]
    exact ⟨h, hB1, hB2⟩
  clear hk hs h hbase hbB hB1 hB2 n1 n2
  obtain ⟨kn, hkn⟩ : ∃ n, ks.length = n := ⟨_, rfl⟩
  have HKN : Hid (ks.length = kn) := hkn
  rw [hkn] at hks ⊢
  clear hkn
  go_enter Tryz.func129, Tryz.ntmps129
  go_wp2_with fail
  go_loopw [6] (fun i wr => ∃ j : Nat, j ≤ kn ∧ i = .int .i64 (j : Int) ∧ (∃ u1 u2, S4 wr B (.int .i64 bu) (.int .i64 gu) u1 u2 ∧ StoO wr base u1 u2 (offKs (ks.take j) l1) (offKs (ks.take j) l2) ∧ B ∉ u1.ownBlock.toList ++ foot (offKs (ks.take j) l1) ∧ B ∉ u2.ownBlock.toList ++ foot (offKs (ks.take j) l2)) ∧ Below base w wr) (fun i _ => kn - (intOf i).toNat)
  case atStart => exact ⟨0, Nat.zero_le _, rfl, HST.out, Below.refl _ _⟩
  case round =>
    obtain ⟨j, hj, rfl, ⟨u1, u2, s, o, b1, b2⟩, hb⟩ := hrel
    clear HST
    by_cases hlt : j < kn
    · obtain ⟨key, hkey⟩ : ∃ r, ks[j]? = some r := ⟨ks[j]'(by have := HKN.out; omega), List.getElem?_eq_getElem _⟩
      have CD := l8Drop_at wr B base bu gu u1 u2 _ _ key s o (by have := HBS.out.1; have := hb.size; omega) b1 b2 (Nat.le_trans (List.length_filter_le _ _) HL.out.1) (Nat.le_trans (List.length_filter_le _ _) HL.out.2)
      rw [offKs_next hkey, offKs_next hkey] at CD
      rcases HK.out wr hb with e | ⟨g, off, rfl, hat⟩
      · rw [e] at hkey; simp at hkey
      have p := hat j key hkey
      have gj : (j : Int) < kn := by omega
      have gj0 : (0 : Int) ≤ j := by omega
      have HB : Hid (Below base w wr) := hb
      clear s o b1 b2 hkey hat hb
      go_wp2_with fail
      refine CD.mono ?_
      rintro e w2 ⟨rfl, hnx, hb2⟩
      have HX : Hid _ := hnx
      have HB2 : Hid (Below base w w2) := HB.out.trans (hb2.mono HBS.out.2)
      clear CD hnx hb2 HB p
      go_wp2_with fail
      go_roundw
      case rel => exact ⟨j + 1, by omega, by go_num, HX.out, HB2.out⟩
      case measure => simp [intOf]; omega
    · have e : j = kn := by omega
      subst e
      rw [List.take_of_length_le (by have := HKN.out; omega)] at o b1 b2
      have HE : Hid ((∃ a1 k1 n1 a2 k2 n2, S4 wr B (.int .i64 bu) (.int .i64 gu) (.slice a1 n1 k1) (.slice a2 n2 k2) ∧ StoLV wr base (.slice a1 n1 k1) (.slice a2 n2 k2) (offKs ks l1) (offKs ks l2)) ∧ Below base w wr) := by
        obtain ⟨a1, k1, rfl, _⟩ := row_form o.t.own
        obtain ⟨a2, k2, rfl, _⟩ := row_form o.k.own
        exact ⟨⟨a1, k1, _, a2, k2, _, s, o.lv⟩, hb⟩
      clear s o b1 b2 hb HK
      go_wp2_with fail
      exact bodyPost_end (v := .tuple #[]) (by simp [results, Tryz.results129, go_sem]) rfl ⟨rfl, HE.out⟩
set_option maxRecDepth 100000 in
set_option maxHeartbeats 8000000 in
theorem l9SoftS_at (w : World) (B base : Nat) (bu gu : Int) (a1 a2 : Option Addr) (n1 k1 n2 k2 : Nat) (l1 l2 : List (Ent × EntR)) (a : Option Addr) (kc : Nat) (ks : List ByteArray) (hks : ks.length ≤ 1000) (hs : S4 w B (.int .i64 bu) (.int .i64 gu) (.slice a1 n1 k1) (.slice a2 n2 k2)) (h : StoLV w base (.slice a1 n1 k1) (.slice a2 n2 k2) l1 l2) (hbase : base ≤ w.heap.size) (hB1 : B ∉ fp (.slice a1 n1 k1) l1) (hB2 : B ∉ fp (.slice a2 n2 k2) l2) (z1 : l1.length ≤ 1000) (z2 : l2.length ≤ 1000) (hk : ∀ X, Below base w X → TIn X a ks) :
    Calls Tryz.prog 129 #[.pointer (some ⟨B, 0, none⟩), .slice a ks.length kc, .bool false] w fun e w' => e = .returned (.tuple #[]) ∧ (S4 w' B (.int .i64 bu) (.int .i64 gu) (.slice a1 n1 k1) (.slice a2 n2 k2) ∧ StoLV w' base (.slice a1 n1 k1) (.slice a2 n2 k2) (turnM (inK ks) softE l1) (turnM (inK ks) softE l2)) ∧ Below base w w' := by
  have so : ∀ {X X' : World} {F : List Nat}, S4 X B (.int .i64 bu) (.int .i64 gu) (.slice a1 n1 k1) (.slice a2 n2 k2) → Out F X X' → B ∉ F → S4 X' B (.int .i64 bu) (.int .i64 gu) (.slice a1 n1 k1) (.slice a2 n2 k2) := fun s o hn => ⟨by rw [o.cell B 0 s.lt hn]; exact s.c0, by rw [o.cell B 1 s.lt hn]; exact s.c1, by rw [o.cell B 2 s.lt hn]; exact s.c2, by rw [o.cell B 3 s.lt hn]; exact s.c3, fun q => by rw [o.frozen B q s.lt hn]; exact s.fr q, Nat.lt_of_lt_of_le s.lt o.size⟩
  have C1 : Hid (Calls Tryz.prog 153 #[.slice a1 n1 k1, .slice a ks.length kc] w fun e w' => e = .returned (.tuple #[]) ∧ S4 w' B (.int .i64 bu) (.int .i64 gu) (.slice a1 n1 k1) (.slice a2 n2 k2) ∧ StoLV w' base (.slice a1 n1 k1) (.slice a2 n2 k2) (turnM (inK ks) softE l1) l2 ∧ Below base w w') := by
    refine (l9Soft_v w base n1 k1 a1 a kc ks l1 z1 hks h.t hbase hk).mono ?_
    rintro e w' ⟨h1, h2, h3, h4⟩
    exact ⟨h1, so hs h3 hB1, ⟨h2, h.k.out h3 (fun b hb e => h.nd b e hb), by rw [fp_turnM]; exact h.nd⟩, h4⟩
  have C2 : Hid (∀ X, S4 X B (.int .i64 bu) (.int .i64 gu) (.slice a1 n1 k1) (.slice a2 n2 k2) → StoLV X base (.slice a1 n1 k1) (.slice a2 n2 k2) (turnM (inK ks) softE l1) l2 → Below base w X → Calls Tryz.prog 153 #[.slice a2 n2 k2, .slice a ks.length kc] X fun e w' => e = .returned (.tuple #[]) ∧ (S4 w' B (.int .i64 bu) (.int .i64 gu) (.slice a1 n1 k1) (.slice a2 n2 k2) ∧ StoLV w' base (.slice a1 n1 k1) (.slice a2 n2 k2) (turnM (inK ks) softE l1) (turnM (inK ks) softE l2)) ∧ Below base w w') := fun X s o hb => by
    refine (l9Soft_v X base n2 k2 a2 a kc ks l2 z2 hks o.k (by have := hb.size; omega) (fun Y hY => hk Y (hb.trans hY))).mono ?_
    rintro e w' ⟨h1, h2, h3, h4⟩
    exact ⟨h1, ⟨so s h3 hB2, ⟨o.t.out h3 (fun b hb e => o.nd b hb e), h2, fun b h5 => by rw [fp_turnM]; exact o.nd b h5⟩⟩, hb.trans h4⟩
  have e2 := hs.c2
  clear hs h hbase hB1 hB2 z1 z2 hk so
  generalize ks.length = kn at *
  go_enter Tryz.func129, Tryz.ntmps129
  go_wp2_with fail
  refine C1.out.mono ?_
  rintro e w1 ⟨rfl, s1, o1, hb1⟩
  have CC := C2.out w1 s1 o1 hb1
  have e3 := s1.c3
  clear C1 C2 s1 o1 hb1 e2
  go_wp2_with fail
  refine CC.mono ?_
  rintro e w2 ⟨rfl, hnx⟩
  have HX : Hid _ := hnx
  clear CC hnx e3
  go_wp2_with fail
  exact bodyPost_ret (v := .tuple #[]) (results_none rfl _ _ _) rfl ⟨rfl, HX.out⟩
end Go.Proofs.YtaphofdcoddopaaGreatDoor
/-
  A store whose meant entries are soft, by the program.
-/
namespace Go.Proofs.YtaphofdcoddopaaGreatDoor
open Go.ChangeShapes Go.WideShapes Go.ChangeAt Go.RowKit Go.Sort
/-- The first k entries are turned. -/
def turnP (p : Ent → Bool) (f : Ent → Ent) (k : Nat) (m : List (Ent × EntR)) : List (Ent × EntR) := turnM p f (m.take k) ++ m.drop k
theorem turnP_zero (p : Ent → Bool) (f : Ent → Ent) (m : List (Ent × EntR)) : turnP p f 0 m = m := by simp [turnP, turnM]
theorem turnP_all {p : Ent → Bool} {f : Ent → Ent} {k : Nat} {m : List (Ent × EntR)} (h : m.length ≤ k) : turnP p f k m = turnM p f m := by unfold turnP; rw [List.take_of_length_le h, List.drop_of_length_le h, List.append_nil]
theorem turnP_at {p : Ent → Bool} {f : Ent → Ent} {k : Nat} {m : List (Ent × EntR)} {q : Ent × EntR} (h : m[k]? = some q) : turnP p f k m = turnM p f (m.take k) ++ (q.1, q.2) :: m.drop (k + 1) ∧ (turnM p f (m.take k)).length = k ∧ turnP p f (k + 1) m = turnM p f (m.take k) ++ (if p q.1 then f q.1 else q.1, q.2) :: m.drop (k + 1) := by
  obtain ⟨hk, e⟩ := List.getElem?_eq_some_iff.1 h
  refine ⟨?_, by rw [turnM_len, List.length_take]; omega, ?_⟩
  · unfold turnP; rw [List.drop_eq_getElem_cons hk, e]
  · unfold turnP
    rw [take_next h]
    unfold turnM
    rw [List.map_append]
    simp
theorem fp_turnP (v : Value) (p : Ent → Bool) (f : Ent → Ent) (k : Nat) (m : List (Ent × EntR)) : fp v (turnP p f k m) = fp v m := by
  unfold fp turnP
  rw [foot_app, foot_turnM, ← foot_app, List.take_append_drop]
theorem mid_at {α : Type} {A B : List α} {y : α} {k : Nat} (h : A.length = k) : (A ++ y :: B)[k]? = some y := by subst h; exact mid_eq _ _ _
/-- One step: the k-th of all entries is turned, if it is meant. -/
theorem soft_step {X : World} {base n1 k1 n2 k2 : Nat} {a1 a2 : Option Addr} {m1 m2 : List (Ent × EntR)} {p : Ent → Bool} {k : Nat} {h : Hdl} (hs : StoLV X base (.slice a1 n1 k1) (.slice a2 n2 k2) (turnP p softE k m1) (turnP p softE (k - m1.length) m2)) (hh : (hdl2 a1 a2 m1 m2)[k]? = some h) :
    HThere X h ∧ X.cell? ⟨h.b, h.o + 9, none⟩ = some (.bool h.x.b1) ∧ X.frozen? ⟨h.b, h.o + 9, none⟩ = false ∧ base ≤ h.b ∧ (h.b ∈ fp (.slice a1 n1 k1) m1 ∨ h.b ∈ fp (.slice a2 n2 k2) m2) ∧ (p h.x = false → StoLV X base (.slice a1 n1 k1) (.slice a2 n2 k2) (turnP p softE (k + 1) m1) (turnP p softE (k + 1 - m1.length) m2)) ∧ (p h.x = true → StoLV (X.setCell ⟨h.b, h.o + 9, none⟩ (.bool true)) base (.slice a1 n1 k1) (.slice a2 n2 k2) (turnP p softE (k + 1) m1) (turnP p softE (k + 1 - m1.length) m2)) := by
  have split : (k < m1.length ∧ (hdlsA a1 m1)[k]? = some h) ∨ (m1.length ≤ k ∧ (hdlsA a2 m2)[k - m1.length]? = some h) := by
    unfold hdl2 at hh
    by_cases c : k < m1.length
    · rw [List.getElem?_append_left (by rw [hdlsA_len]; exact c)] at hh; exact .inl ⟨c, hh⟩
    · rw [List.getElem?_append_right (by rw [hdlsA_len]; omega), hdlsA_len] at hh; exact .inr ⟨by omega, hh⟩
  have loc : ∀ {a : Option Addr} {n c j : Nat} {m M : List (Ent × EntR)}, EntsLV X base (.slice a n c) M → M.length = m.length → (hdlsA a m)[j]? = some h → ∃ G, a = some ⟨G, 0, none⟩ ∧ m[j]? = some (h.x, h.r) ∧ h.b = G ∧ h.o = j * 13 := fun {a n c j m M} he hl hj => by
    rcases he.form with ⟨_, e⟩ | ⟨G, c', e, _⟩
    · have : m = [] := by rw [e] at hl; exact List.eq_nil_of_length_eq_zero (by simpa using hl.symm)
      subst this
      rw [List.getElem?_eq_none (by rw [hdlsA_len]; simp)] at hj
      cases hj
    · simp only [Value.slice.injEq] at e
      obtain ⟨rfl, _⟩ := e
      simp only [hdlsA] at hj
      unfold hdls at hj
      rw [List.getElem?_mapIdx] at hj
      obtain ⟨q, hq, rfl⟩ := Option.map_eq_some_iff.1 hj
      exact ⟨G, rfl, hq, rfl, by simp⟩
  have tlen : ∀ (k : Nat) (m : List (Ent × EntR)), (turnP p softE k m).length = m.length := fun k m => by unfold turnP; rw [List.length_append, turnM_len, ← List.length_append, List.take_append_drop]
  rcases split with ⟨hk, hj⟩ | ⟨hk, hj⟩
  · obtain ⟨G, rfl, hq, hb, ho⟩ := loc hs.t (tlen _ _) hj
    obtain ⟨t1, t2, t3⟩ := turnP_at (p := p) (f := softE) hq
    simp only at t1 t3
    have z := hs.t.at
    rw [t1] at z
    have cells := z.2.2.2.2.1 k (h.x, h.r) (mid_at t2)
    have hrow := hs.t.rows (h.x, h.r) (by rw [t1]; simp)
    rw [hb, ho]
    have e0 : k - m1.length = 0 := by omega
    have e1 : k + 1 - m1.length = 0 := by omega
    refine ⟨⟨fun j hj' => by rw [hb, ho]; exact cells j hj', hrow.in⟩, cells 9 (by omega), z.2.2.2.2.2 _, z.2.2.1, .inl (by simp [fp, Value.ownBlock]), fun hp => ?_, fun hp => ?_⟩
    · rw [t3, hp, e1]
      have := hs
      rw [t1, e0] at this
      simpa using this
    · rw [t3, hp, e1]
      have hs' := hs
      rw [t1, e0] at hs'
      exact hs'.setT t2 9 (by omega) (.bool true) (softE h.x) rfl rfl rfl rfl
  · obtain ⟨G, rfl, hq, hb, ho⟩ := loc hs.k (tlen _ _) hj
    obtain ⟨t1, t2, t3⟩ := turnP_at (p := p) (f := softE) hq
    simp only at t1 t3
    have z := hs.k.at
    rw [t1] at z
    have cells := z.2.2.2.2.1 (k - m1.length) (h.x, h.r) (mid_at t2)
    have hrow := hs.k.rows (h.x, h.r) (by rw [t1]; simp)
    rw [hb, ho]
    have e1 : k + 1 - m1.length = k - m1.length + 1 := by omega
    have e2 : turnP p softE (k + 1) m1 = turnP p softE k m1 := by rw [turnP_all (by omega), turnP_all (by omega)]
    refine ⟨⟨fun j hj' => by rw [hb, ho]; exact cells j hj', hrow.in⟩, cells 9 (by omega), z.2.2.2.2.2 _, z.2.2.1, .inr (by simp [fp, Value.ownBlock]), fun hp => ?_, fun hp => ?_⟩
    · rw [e2, e1, t3, hp]
      have := hs
      rw [t1] at this
      simpa using this
    · rw [e2, e1, t3, hp]
      have hs' := hs
      rw [t1] at hs'
      exact hs'.setK t2 9 (by omega) (.bool true) (softE h.x) rfl rfl rfl rfl
/-- Behind the first step: a store told anew, in a variable. -/
structure SfCut (W : World) (bu gu : Int) (tl kl : List Ent) (T lo : Nat) (a1 a2 : Option Addr) (k1 n1 k2 n2 : Nat) (m1 m2 : List (Ent × EntR)) (X : World) : Prop where
  b : Below W.heap.size W X
  s : S4 X T (.int .i64 bu) (.int .i64 gu) (.slice a1 n1 k1) (.slice a2 n2 k2)
  o : StoLV X lo (.slice a1 n1 k1) (.slice a2 n2 k2) m1 m2
  t1 : T ∉ fp (.slice a1 n1 k1) m1
  t2 : T ∉ fp (.slice a2 n2 k2) m2
  lo1 : W.heap.size ≤ lo
  lo2 : lo ≤ X.heap.size
  e1 : m1.map Prod.fst = tl
  e2 : m2.map Prod.fst = kl
theorem SfCut.put {W wb : World} {bu gu : Int} {tl kl : List Ent} {T lo : Nat} {a1 a2 : Option Addr} {k1 n1 k2 n2 : Nat} {m1 m2 : List (Ent × EntR)} {z0 z1 z2 z3 : Value} (b : Below W.heap.size W wb) (s : S4 wb T z0 z1 z2 z3) (o : StoLV wb lo (.slice a1 n1 k1) (.slice a2 n2 k2) m1 m2) (t1 : T ∉ fp (.slice a1 n1 k1) m1) (t2 : T ∉ fp (.slice a2 n2 k2) m2) (hT : W.heap.size ≤ T) (lo1 : W.heap.size ≤ lo) (lo2 : lo ≤ wb.heap.size) (e1 : m1.map Prod.fst = tl) (e2 : m2.map Prod.fst = kl) :
    SfCut W bu gu tl kl T lo a1 a2 k1 n1 k2 n2 m1 m2 ((((wb.setCell ⟨T, 0, none⟩ (.int .i64 bu)).setCell ⟨T, 1, none⟩ (.int .i64 gu)).setCell ⟨T, 2, none⟩ (.slice a1 n1 k1)).setCell ⟨T, 3, none⟩ (.slice a2 n2 k2)) := by
  have off : ∀ {X : World} {i : Nat} {u : Value}, StoLV X lo (.slice a1 n1 k1) (.slice a2 n2 k2) m1 m2 → StoLV (X.setCell ⟨T, i, none⟩ u) lo (.slice a1 n1 k1) (.slice a2 n2 k2) m1 m2 := fun {X i u} h => h.out (Out.set X T i u) (fun c hc e => by simp at hc; subst hc; exact t1 e) (fun c hc e => by simp at hc; subst hc; exact t2 e)
  exact ⟨(((b.setCell hT _).setCell hT _).setCell hT _).setCell hT _, (((s.set0 _).set1 _).set2 _).set3 _, off (off (off (off o))), t1, t2, lo1, by simpa using lo2, e1, e2⟩
set_option maxRecDepth 100000 in
set_option maxHeartbeats 16000000 in
theorem softened_any (w : World) (B0 g : Nat) (lb : Array Value) (p : Ent → Bool) (C : World → Prop) (bu gu : Int) (ta ka : Option Addr) (tc kc : Nat) (tl kl : List (Ent × EntR)) (hS : StoOk w ta ka tl kl) (PF : PredF B0 g lb p C) (hC : C w) (hB0 : B0 ≤ w.heap.size) :
    Calls Tryz.prog 131 #[.agg #[.int .i64 bu, .int .i64 gu, .slice ta tl.length tc, .slice ka kl.length kc], .func (.func g) #[] lb] w fun e w' => (∃ a1 k1 n1 a2 k2 n2 m1 m2, e = .returned (.agg #[.int .i64 bu, .int .i64 gu, .slice a1 n1 k1, .slice a2 n2 k2]) ∧ m1.map Prod.fst = turnE p softE (tl.map Prod.fst) ∧ m2.map Prod.fst = turnE p softE (kl.map Prod.fst) ∧ StoLV w' w.heap.size (.slice a1 n1 k1) (.slice a2 n2 k2) m1 m2) ∧ Below w.heap.size w w' := by
  have hn := hS.n
  have HTL : Hid (∀ x ∈ tl.map Prod.fst ++ kl.map Prod.fst, x.ts.length ≤ 1048576) := fun x hx => by
    rw [← hdl2_x ta ka] at hx
    obtain ⟨h, hh, rfl⟩ := List.mem_map.1 hx
    exact (entC_sizes (hS.z h hh)).2
  have HPF : Hid (PredF B0 g lb p C ∧ C w ∧ B0 ≤ w.heap.size) := ⟨PF, hC, hB0⟩
  have eg := PF.eg
  obtain ⟨W, hW⟩ : ∃ W, W = (w.alloc (.cells #[.int .i64 bu, .int .i64 gu, .slice ta tl.length tc, .slice ka kl.length kc] 28)).alloc (.cells #[.int .i64 0, .int .i64 0, .slice none 0 0, .slice none 0 0] 28) := ⟨_, rfl⟩
  have HW : Hid (W = (w.alloc (.cells #[.int .i64 bu, .int .i64 gu, .slice ta tl.length tc, .slice ka kl.length kc] 28)).alloc (.cells #[.int .i64 0, .int .i64 0, .slice none 0 0, .slice none 0 0] 28)) := hW
  have K0 : Hid (Below w.heap.size w W ∧ S4 W w.heap.size (.int .i64 bu) (.int .i64 gu) (.slice ta tl.length tc) (.slice ka kl.length kc) ∧ S4 W (w.heap.size + 1) (.int .i64 0) (.int .i64 0) (.slice none 0 0) (.slice none 0 0) ∧ W.heap.size = w.heap.size + 2) := by
    rw [hW]
    refine ⟨((Below.refl _ _).alloc (Nat.le_refl _) _).alloc (by simp) _, (S4.new w _ _ _ _ _).keep ((Below.refl _ _).alloc (Nat.le_refl _) _), ?_, by simp⟩
    have := S4.new (w.alloc (.cells #[.int .i64 bu, .int .i64 gu, .slice ta tl.length tc, .slice ka kl.length kc] 28)) (.int .i64 0) (.int .i64 0) (.slice none 0 0) (.slice none 0 0) 28
    simpa using this
  have CS : Hid (∀ X, Below w.heap.size w X → Calls Tryz.prog 52 #[.agg #[.int .i64 bu, .int .i64 gu, .slice ta tl.length tc, .slice ka kl.length kc]] X fun e w' => (∃ a1 c1 d1 a2 c2 d2, e = .returned (.agg #[.slice a1 c1 d1, .slice a2 c2 d2]) ∧ TwoP w' X.heap.size (.slice a1 c1 d1) (.slice a2 c2 d2) (hdlsA ta tl) (hdlsA ka kl)) ∧ Below X.heap.size X w') := fun X hX => by
    refine (shelvesOf_any X bu gu ta ka tc kc tl kl (by omega) (by omega) (hS.t.keep hX) (hS.k.keep hX)).mono ?_
    rintro e w' ⟨⟨v1, v2, rfl, h2⟩, hb'⟩
    obtain ⟨a1, d1, rfl, _⟩ := h2.a.form
    obtain ⟨a2, d2, rfl, _⟩ := h2.b.form
    exact ⟨⟨a1, _, d1, a2, _, d2, rfl, h2⟩, hb'⟩
  have HSL : Hid (∀ X v1 v2 base, Below w.heap.size w X → TwoP X base v1 v2 (hdlsA ta tl) (hdlsA ka kl) → Calls Tryz.prog 54 #[.agg #[v1, v2], .agg #[.int .i64 bu, .int .i64 gu, .slice ta tl.length tc, .slice ka kl.length kc]] X fun e w' => (∃ a1 k1 n1 a2 k2 n2 m1 m2, e = .returned (.agg #[.int .i64 bu, .int .i64 gu, .slice a1 n1 k1, .slice a2 n2 k2]) ∧ m1.map Prod.fst = tl.map Prod.fst ∧ m2.map Prod.fst = kl.map Prod.fst ∧ StoLV w' X.heap.size (.slice a1 n1 k1) (.slice a2 n2 k2) m1 m2) ∧ Below X.heap.size X w') := fun X v1 v2 base hb h => by
    refine (storeLike_any X v1 v2 base _ _ bu gu ta ka tc kc tl.length kl.length h (by rw [hdlsA_len, hdlsA_len]; omega) (fun x hx => (hdl2_there hS.t hS.k x hx).keep hb) (fun x hx => hS.z x hx) (fun x hx => hS.ts x hx)).mono ?_
    rintro e w' ⟨⟨a1, k1, n1, a2, k2, n2, m1, m2, rfl, q1, q2, o⟩, hb'⟩
    exact ⟨⟨a1, k1, n1, a2, k2, n2, m1, m2, rfl, by rw [q1, hdlsA_x], by rw [q2, hdlsA_x], o.lv⟩, hb'⟩
  have HLN : Hid (tl.length + kl.length ≤ 40) := hn
  have HKW : Hid (∀ X, Below W.heap.size W X → Below w.heap.size w X ∧ S4 X w.heap.size (.int .i64 bu) (.int .i64 gu) (.slice ta tl.length tc) (.slice ka kl.length kc) ∧ S4 X (w.heap.size + 1) (.int .i64 0) (.int .i64 0) (.slice none 0 0) (.slice none 0 0) ∧ w.heap.size + 2 ≤ W.heap.size) := fun X hX => ⟨K0.out.1.trans (hX.mono K0.out.1.size), K0.out.2.1.keep hX, K0.out.2.2.1.keep hX, by have := K0.out.2.2.2; omega⟩
  clear hW hS PF hC hB0 K0 hn
  have HL1 : Hid (∀ m1 m2 : List (Ent × EntR), m1.map Prod.fst = tl.map Prod.fst → m2.map Prod.fst = kl.map Prod.fst → m1.length + m2.length ≤ 40) := fun m1 m2 q1 q2 => by
    have l1 := congrArg List.length q1
    have l2 := congrArg List.length q2
    simp at l1 l2
    have := HLN.out
    omega
  generalize tl.length = tn at *
  generalize kl.length = kn at *
  have HKS : Hid (∀ X, Below W.heap.size W X → (X.cell? ⟨w.heap.size, 0, none⟩ = some (.int .i64 bu) ∧ X.cell? ⟨w.heap.size, 1, none⟩ = some (.int .i64 gu) ∧ X.cell? ⟨w.heap.size, 2, none⟩ = some (.slice ta tn tc) ∧ X.cell? ⟨w.heap.size, 3, none⟩ = some (.slice ka kn kc))) := fun X hX => ⟨(HKW.out X hX).2.1.c0, (HKW.out X hX).2.1.c1, (HKW.out X hX).2.1.c2, (HKW.out X hX).2.1.c3⟩
  have HKA : Hid (∀ X o, Below W.heap.size W X → ((X.alloc o).cell? ⟨w.heap.size, 0, none⟩ = some (.int .i64 bu) ∧ (X.alloc o).cell? ⟨w.heap.size, 1, none⟩ = some (.int .i64 gu) ∧ (X.alloc o).cell? ⟨w.heap.size, 2, none⟩ = some (.slice ta tn tc) ∧ (X.alloc o).cell? ⟨w.heap.size, 3, none⟩ = some (.slice ka kn kc))) := fun X o hX => HKS.out _ (hX.alloc hX.size o)
  have HKT : Hid (∀ X T u0 u1 u2 u3, W.heap.size ≤ T → Below W.heap.size W X → (((((X.setCell ⟨T, 0, none⟩ u0).setCell ⟨T, 1, none⟩ u1).setCell ⟨T, 2, none⟩ u2).setCell ⟨T, 3, none⟩ u3).cell? ⟨w.heap.size, 0, none⟩ = some (.int .i64 bu) ∧ ((((X.setCell ⟨T, 0, none⟩ u0).setCell ⟨T, 1, none⟩ u1).setCell ⟨T, 2, none⟩ u2).setCell ⟨T, 3, none⟩ u3).cell? ⟨w.heap.size, 1, none⟩ = some (.int .i64 gu) ∧ ((((X.setCell ⟨T, 0, none⟩ u0).setCell ⟨T, 1, none⟩ u1).setCell ⟨T, 2, none⟩ u2).setCell ⟨T, 3, none⟩ u3).cell? ⟨w.heap.size, 2, none⟩ = some (.slice ta tn tc) ∧ ((((X.setCell ⟨T, 0, none⟩ u0).setCell ⟨T, 1, none⟩ u1).setCell ⟨T, 2, none⟩ u2).setCell ⟨T, 3, none⟩ u3).cell? ⟨w.heap.size, 3, none⟩ = some (.slice ka kn kc))) := fun X T u0 u1 u2 u3 hT hX => HKS.out _ ((((hX.setCell hT _).setCell hT _).setCell hT _).setCell hT _)
  have B0' : Hid (Below W.heap.size W W.drew) := (Below.refl _ _).drew
  have BZ : Hid (Below W.heap.size W ((W.alloc (.cells #[.int .i64 0, .int .i64 0, .slice none 0 0, .slice none 0 0] 28)).drew) ∧ S4 ((W.alloc (.cells #[.int .i64 0, .int .i64 0, .slice none 0 0, .slice none 0 0] 28)).drew) W.heap.size (.int .i64 0) (.int .i64 0) (.slice none 0 0) (.slice none 0 0) ∧ W.heap.size + 1 ≤ ((W.alloc (.cells #[.int .i64 0, .int .i64 0, .slice none 0 0, .slice none 0 0] 28)).drew).heap.size) := ⟨((Below.refl _ _).alloc (Nat.le_refl _) _).drew, (S4.new W _ _ _ _ _).keep ((Below.refl _ _).drew), by simp [World.drew]⟩
  have HNA : Hid (∀ X : World, S4 (X.alloc (.cells #[.int .i64 0, .int .i64 0, .slice none 0 0, .slice none 0 0] 28)) X.heap.size (.int .i64 0) (.int .i64 0) (.slice none 0 0) (.slice none 0 0) ∧ X.heap.size + 1 = (X.alloc (.cells #[.int .i64 0, .int .i64 0, .slice none 0 0, .slice none 0 0] 28)).heap.size) := fun X => ⟨S4.new X _ _ _ _ _, by simp⟩
  go_enter Tryz.func131, Tryz.ntmps131
  go_upto_region 1 with fail
  rw [← HW.out]
  clear HW
  go_cut [5] from 8 to 11 (fun s5 wx => ∃ T lo b1 b2 k1 n1 k2 n2 m1 m2, s5 = .pointer (some ⟨T, 0, none⟩) ∧ SfCut W bu gu (tl.map Prod.fst) (kl.map Prod.fst) T lo b1 b2 k1 n1 k2 n2 m1 m2 wx)
  case first =>
    go_region_held3 (fun X => X.cell? ⟨w.heap.size, 0, none⟩ = some (.int .i64 bu) ∧ X.cell? ⟨w.heap.size, 1, none⟩ = some (.int .i64 gu) ∧ X.cell? ⟨w.heap.size, 2, none⟩ = some (.slice ta tn tc) ∧ X.cell? ⟨w.heap.size, 3, none⟩ = some (.slice ka kn kc))
      (first | ((with_reducible refine HKS.out _ ?_); (with_reducible exact BB.out)) | ((with_reducible refine HKS.out _ ?_); (with_reducible exact BA.out)) | ((with_reducible refine HKS.out _ ?_); (with_reducible exact BZ.out.1)) | ((with_reducible refine HKS.out _ ?_); (with_reducible exact B0'.out)) | ((with_reducible refine HKA.out _ _ ?_); (with_reducible exact BB.out)) | ((with_reducible refine HKA.out _ _ ?_); (with_reducible exact BA.out)) | ((with_reducible refine HKA.out _ _ ?_); (with_reducible exact B0'.out)) | ((with_reducible refine HKT.out _ _ _ _ _ _ ?_ ?_); (first | exact Nat.le_refl _ | exact BA.out.size | exact BB.out.size); (first | (with_reducible exact BB.out) | exact BB.out.alloc BB.out.size _)))
      (first
      | (go_at_call 54; (with_reducible refine (HSL.out wa _ _ W.heap.size ?_ ?_).mono ?_); (exact (HKW.out _ BA.out).1); (exact TP.out); rintro r0 wb ⟨⟨b1, k1, n1, b2, k2, n2, m1, m2, rfl, q1, q2, o⟩, hbb⟩; have BB : Hid (Below W.heap.size W wb) := BA.out.trans (hbb.mono BA.out.size); have OA : Hid (StoLV wb wa.heap.size (.slice b1 n1 k1) (.slice b2 n2 k2) m1 m2 ∧ m1.map Prod.fst = tl.map Prod.fst ∧ m2.map Prod.fst = kl.map Prod.fst ∧ Below wa.heap.size wa wb) := ⟨o, q1, q2, hbb⟩; clear o q1 q2 hbb; try (obtain ⟨z0, z1, z2, z3, zf, _⟩ := SA.out.keep OA.out.2.2.2; have zf0 := zf 0; have zf1 := zf 1; have zf2 := zf 2; have zf3 := zf 3; clear zf))
      | (go_at_call 54; (with_reducible refine (HSL.out (wa.alloc (.cells #[.int .i64 0, .int .i64 0, .slice none 0 0, .slice none 0 0] 28)) _ _ W.heap.size ?_ ?_).mono ?_); (exact (HKW.out _ (BA.out.alloc BA.out.size _)).1); (exact TP.out.below ((Below.refl _ _).alloc (Nat.le_refl _) _)); rintro r0 wb ⟨⟨b1, k1, n1, b2, k2, n2, m1, m2, rfl, q1, q2, o⟩, hbb⟩; have BB : Hid (Below W.heap.size W wb) := (BA.out.alloc BA.out.size _).trans (hbb.mono (BA.out.alloc BA.out.size _).size); have OB : Hid (StoLV wb (wa.alloc (.cells #[.int .i64 0, .int .i64 0, .slice none 0 0, .slice none 0 0] 28)).heap.size (.slice b1 n1 k1) (.slice b2 n2 k2) m1 m2 ∧ m1.map Prod.fst = tl.map Prod.fst ∧ m2.map Prod.fst = kl.map Prod.fst ∧ Below (wa.alloc (.cells #[.int .i64 0, .int .i64 0, .slice none 0 0, .slice none 0 0] 28)).heap.size (wa.alloc (.cells #[.int .i64 0, .int .i64 0, .slice none 0 0, .slice none 0 0] 28)) wb ∧ S4 wb wa.heap.size (.int .i64 0) (.int .i64 0) (.slice none 0 0) (.slice none 0 0)) := ⟨o, q1, q2, hbb, (HNA.out wa).1.keep hbb⟩; clear o q1 q2 hbb; obtain ⟨z0, z1, z2, z3, zf, _⟩ := OB.out.2.2.2.2; have zf0 := zf 0; have zf1 := zf 1; have zf2 := zf 2; have zf3 := zf 3; clear zf)
      | (go_at_call 52; (with_reducible refine (CS.out W.drew ?_).mono ?_); (exact (HKW.out _ B0'.out).1); rintro r0 wa ⟨⟨a1, c1, d1, a2, c2, d2, rfl, tp⟩, hba⟩; have BA : Hid (Below W.heap.size W wa) := B0'.out.trans (hba.mono B0'.out.size); have TP : Hid (TwoP wa W.heap.size (.slice a1 c1 d1) (.slice a2 c2 d2) (hdlsA ta tl) (hdlsA ka kl)) := tp; clear hba tp)
      | (go_at_call 52; (with_reducible refine (CS.out ((W.alloc (.cells #[.int .i64 0, .int .i64 0, .slice none 0 0, .slice none 0 0] 28)).drew) ?_).mono ?_); (exact (HKW.out _ BZ.out.1).1); rintro r0 wa ⟨⟨a1, c1, d1, a2, c2, d2, rfl, tp⟩, hba⟩; have BA : Hid (Below W.heap.size W wa) := BZ.out.1.trans (hba.mono BZ.out.1.size); have TP : Hid (TwoP wa W.heap.size (.slice a1 c1 d1) (.slice a2 c2 d2) (hdlsA ta tl) (hdlsA ka kl)) := tp.lower BZ.out.1.size; have SA : Hid (S4 wa W.heap.size (.int .i64 0) (.int .i64 0) (.slice none 0 0) (.slice none 0 0)) := BZ.out.2.1.keep hba; have SZ : Hid (W.heap.size + 1 ≤ wa.heap.size) := Nat.le_trans BZ.out.2.2 hba.size; clear hba tp)
      | (go_at_call 54; trace_state; fail))
    all_goals go_wp2_with fail
    all_goals go_meet
    all_goals first
      | exact ⟨W.heap.size, wa.heap.size, b1, b2, k1, n1, k2, n2, m1, m2, rfl, SfCut.put BB.out (SA.out.keep OA.out.2.2.2) OA.out.1 (fun h => by have := OA.out.1.t.ge h; have := SZ.out; omega) (fun h => by have := OA.out.1.k.ge h; have := SZ.out; omega) (Nat.le_refl _) BA.out.size OA.out.2.2.2.size OA.out.2.1 OA.out.2.2.1⟩
      | exact ⟨wa.heap.size, _, b1, b2, k1, n1, k2, n2, m1, m2, rfl, SfCut.put BB.out OB.out.2.2.2.2 OB.out.1 (fun h => by have := OB.out.1.t.ge h; have := (HNA.out wa).2; omega) (fun h => by have := OB.out.1.k.ge h; have := (HNA.out wa).2; omega) BA.out.size (by have := BA.out.size; have := (HNA.out wa).2; omega) OB.out.2.2.2.1.size OB.out.2.1 OB.out.2.2.1⟩
      | exact ⟨wb.heap.size, wa.heap.size, b1, b2, k1, n1, k2, n2, m1, m2, rfl, ⟨BB.out.alloc BB.out.size _, S4.new wb _ _ _ _ _, OA.out.1.below ((Below.refl _ _).alloc (Nat.le_refl _) _), (fun h => by have := OA.out.1.t.lt h; omega), (fun h => by have := OA.out.1.k.lt h; omega), BA.out.size, (by have := OA.out.2.2.2.size; simp; omega), OA.out.2.1, OA.out.2.2.1⟩⟩
  case rest =>
  obtain ⟨T, lo, b1, b2, k1, n1, k2, n2, m1, m2, rfl, hcut⟩ := hcut
  generalize wc = V at *
  obtain ⟨hn1, i1⟩ := slice_len hcut.o.t
  obtain ⟨hn2, i2⟩ := slice_len hcut.o.k
  subst hn1 hn2
  have hml := HL1.out m1 m2 hcut.e1 hcut.e2
  have CS2 : Hid (Calls Tryz.prog 52 #[.agg #[.int .i64 bu, .int .i64 gu, .slice b1 m1.length k1, .slice b2 m2.length k2]] V fun e w' => (∃ a1 c1 d1 a2 c2 d2, e = .returned (.agg #[.slice a1 c1 d1, .slice a2 c2 d2]) ∧ TwoP w' V.heap.size (.slice a1 c1 d1) (.slice a2 c2 d2) (hdlsA b1 m1) (hdlsA b2 m2)) ∧ Below V.heap.size V w') := by
    refine (shelvesOf_any V bu gu b1 b2 k1 k2 m1 m2 (by omega) (by omega) i1 i2).mono ?_
    rintro e w' ⟨⟨v1, v2, rfl, h2⟩, hb'⟩
    obtain ⟨a1, d1, rfl, _⟩ := h2.a.form
    obtain ⟨a2, d2, rfl, _⟩ := h2.b.form
    exact ⟨⟨a1, _, d1, a2, _, d2, rfl, h2⟩, hb'⟩
  have CAL : Hid (∀ X v1 v2 base, TwoP X base v1 v2 (hdlsA b1 m1) (hdlsA b2 m2) → Calls Tryz.prog 106 #[.agg #[v1, v2]] X fun e w' => (∃ a n c, e = .returned (.slice a n c) ∧ n = m1.length + m2.length ∧ OwnP w' X.heap.size (.slice a n c) (hdl2 b1 b2 m1 m2)) ∧ Below X.heap.size X w') := fun X v1 v2 base h => by
    refine (shAll_any X v1 v2 base _ _ h (by rw [hdlsA_len, hdlsA_len]; omega)).mono ?_
    rintro e w' ⟨⟨v, rfl, ho⟩, hb'⟩
    obtain ⟨a, c, rfl, _⟩ := ho.form
    exact ⟨⟨a, _, c, rfl, by rw [List.length_append, hdlsA_len, hdlsA_len], ho⟩, hb'⟩
  have HCT : Hid (SfCut W bu gu (tl.map Prod.fst) (kl.map Prod.fst) T lo b1 b2 k1 m1.length k2 m2.length m1 m2 V) := hcut
  have HML : Hid (m1.length + m2.length ≤ 40) := hml
  have e0 := hcut.s.c0
  have e1 := hcut.s.c1
  have e2 := hcut.s.c2
  have e3 := hcut.s.c3
  clear hcut i1 i2 HKS HKA HKT B0' BZ HNA CS HSL HL1 HLN
  have hmk : m1.length ≤ 40 ∧ m2.length ≤ 40 := by omega
  obtain ⟨M1, hM1⟩ : ∃ n, m1.length = n := ⟨_, rfl⟩
  obtain ⟨M2, hM2⟩ : ∃ n, m2.length = n := ⟨_, rfl⟩
  have HMN : Hid (m1.length = M1 ∧ m2.length = M2) := ⟨hM1, hM2⟩
  rw [hM1, hM2] at HCT CS2 CAL HML hml hmk
  rw [hM1] at e2
  rw [hM2] at e3
  clear hM1 hM2
  go_wp2_with fail
  refine CS2.out.mono ?_
  rintro r0 w2 ⟨⟨a1, c1, d1, a2, c2, d2, rfl, tp⟩, hb2⟩
  have CA := CAL.out w2 _ _ _ tp
  have HB2 : Hid (Below V.heap.size V w2) := hb2
  clear CS2 CAL tp hb2 e0 e1 e2 e3
  go_wp2_with fail
  refine CA.mono ?_
  rintro r0 w3 ⟨⟨av, n, ac, rfl, hnn, ho⟩, hb3⟩
  have HB3 : Hid (Below V.heap.size V w3) := HB2.out.trans (hb3.mono HB2.out.size)
  have HST : Hid (StoLV w3 lo (.slice b1 M1 k1) (.slice b2 M2 k2) (turnP p softE 0 m1) (turnP p softE (0 - m1.length) m2)) := by
    rw [Nat.zero_sub, turnP_zero, turnP_zero]
    exact HCT.out.o.below HB3.out
  have HAL : Hid (∀ X, Out (fp (.slice b1 M1 k1) m1 ++ fp (.slice b2 M2 k2) m2) w3 X → ∀ (k : Nat) h, (hdl2 b1 b2 m1 m2)[k]? = some h → ∃ g, av = some ⟨g, 0, none⟩ ∧ X.cell? ⟨g, k, none⟩ = some (.pointer (some ⟨h.b, h.o, none⟩))) := fun X hX k h hk => by
    obtain ⟨va', vc', e0, _, hf⟩ := ho.form
    simp only [Value.slice.injEq] at e0
    obtain ⟨rfl, _, rfl⟩ := e0
    rcases hf with e | ⟨g, e, hge, hg, hc⟩
    · rw [e] at hk; simp at hk
    · refine ⟨g, e, ?_⟩
      rw [hX.cell g k hg (fun hm => ?_)]
      · exact hc k h hk
      · have hv := HB2.out.size
        rcases List.mem_append.1 hm with hm | hm
        · have := HCT.out.o.t.lt hm; omega
        · have := HCT.out.o.k.lt hm; omega
  have HLEN : Hid ((hdl2 b1 b2 m1 m2).length = n) := by
    show _ = _
    unfold hdl2
    rw [List.length_append, hdlsA_len, hdlsA_len, HMN.out.1, HMN.out.2, hnn]
  clear hb3 ho CA HB2
  go_wp2_with fail
  go_loopw [16] (fun i wr => ∃ k : Nat, k ≤ n ∧ i = .int .i64 (k : Int) ∧ StoLV wr lo (.slice b1 M1 k1) (.slice b2 M2 k2) (turnP p softE k m1) (turnP p softE (k - m1.length) m2) ∧ Out (fp (.slice b1 M1 k1) m1 ++ fp (.slice b2 M2 k2) m2) w3 wr ∧ Below lo w3 wr) (fun i _ => n - (intOf i).toNat)
  case atStart => exact ⟨0, Nat.zero_le _, rfl, HST.out, Out.refl _ _, Below.refl _ _⟩
  case round =>
    obtain ⟨k, hk, rfl, hs, hou, hb⟩ := hrel
    clear HST
    have HWW : Hid (∀ X, Below lo w3 X → Below w.heap.size w X ∧ S4 X (w.heap.size + 1) (.int .i64 0) (.int .i64 0) (.slice none 0 0) (.slice none 0 0) ∧ w.heap.size + 1 < lo) := fun X hX => by
      have b1 := HCT.out.b.trans (HB3.out.mono HCT.out.b.size)
      have hl := HCT.out.lo1
      obtain ⟨q1, _, q2, q3⟩ := HKW.out w3 b1
      refine ⟨q1.trans (hX.mono (by omega)), ⟨by rw [hX.cell (p := ⟨w.heap.size + 1, 0, none⟩) (by simp only; omega)]; exact q2.c0, by rw [hX.cell (p := ⟨w.heap.size + 1, 1, none⟩) (by simp only; omega)]; exact q2.c1, by rw [hX.cell (p := ⟨w.heap.size + 1, 2, none⟩) (by simp only; omega)]; exact q2.c2, by rw [hX.cell (p := ⟨w.heap.size + 1, 3, none⟩) (by simp only; omega)]; exact q2.c3, fun o => by rw [hX.frozen (p := ⟨w.heap.size + 1, o, none⟩) (by simp only; omega)]; exact q2.fr o, Nat.lt_of_lt_of_le q2.lt hX.size⟩, by omega⟩
    by_cases hlt : k < n
    · obtain ⟨h, hr⟩ : ∃ r, (hdl2 b1 b2 m1 m2)[k]? = some r := ⟨(hdl2 b1 b2 m1 m2)[k]'(by have := HLEN.out; omega), List.getElem?_eq_getElem _⟩
      obtain ⟨g', rfl, p1⟩ := HAL.out wr hou k h hr
      have hx : h.x ∈ tl.map Prod.fst ++ kl.map Prod.fst := by
        have : h.x ∈ (hdl2 b1 b2 m1 m2).map Hdl.x := List.mem_map_of_mem (List.mem_of_getElem? hr)
        rw [hdl2_x, HCT.out.e1, HCT.out.e2] at this
        exact this
      have CP := HPF.out.1.call wr h (HPF.out.1.keep _ _ HPF.out.2.1 ((HWW.out wr hb).1.mono HPF.out.2.2)) (soft_step hs hr).1 (HTL.out h.x hx)
      have gk : (k : Int) < n := by omega
      have gk0 : (0 : Int) ≤ k := by omega
      have HNX : Hid (∀ X, Below wr.heap.size wr X → X.cell? ⟨h.b, h.o + 4 + 5, none⟩ = some (.bool h.x.b1) ∧ X.frozen? ⟨h.b, h.o + 4 + 5, none⟩ = false ∧ (p h.x = false → StoLV X lo (.slice b1 M1 k1) (.slice b2 M2 k2) (turnP p softE (k + 1) m1) (turnP p softE (k + 1 - m1.length) m2) ∧ Out (fp (.slice b1 M1 k1) m1 ++ fp (.slice b2 M2 k2) m2) w3 X ∧ Below lo w3 X) ∧ (p h.x = true → StoLV (X.setCell ⟨h.b, h.o + 4 + 5, none⟩ (.bool true)) lo (.slice b1 M1 k1) (.slice b2 M2 k2) (turnP p softE (k + 1) m1) (turnP p softE (k + 1 - m1.length) m2) ∧ Out (fp (.slice b1 M1 k1) m1 ++ fp (.slice b2 M2 k2) m2) w3 (X.setCell ⟨h.b, h.o + 4 + 5, none⟩ (.bool true)) ∧ Below lo w3 (X.setCell ⟨h.b, h.o + 4 + 5, none⟩ (.bool true)))) := fun X hX => by
        have st := soft_step (hs.below hX) hr
        have ouX := hou.trans (Out.below hX)
        have bX := hb.trans (hX.mono (by have := hb.size; have := HB3.out.size; have := HCT.out.lo2; omega))
        refine ⟨st.2.1, st.2.2.1, fun hp => ⟨st.2.2.2.2.2.1 hp, ouX, bX⟩, fun hp => ⟨st.2.2.2.2.2.2 hp, ouX.trans ((Out.set X h.b _ _).mono fun b hm => ?_), bX.setCell st.2.2.2.1 _⟩⟩
        simp at hm
        subst hm
        rcases st.2.2.2.2.1 with h1 | h1
        · exact List.mem_append_left _ h1
        · exact List.mem_append_right _ h1
      clear hs hou hb hr hx HAL HWW
      cases he : p h.x
      · rw [he] at CP
        have HA : Hid _ := fun X hX => (HNX.out X hX).2.2.1 he
        clear HNX he
        go_wp2_with (go_at_fn g; refine CP.mono ?_; rintro e w4 ⟨rfl, hb4⟩)
        go_roundw
        case rel => exact ⟨k + 1, by omega, by go_num, HA.out _ hb4⟩
        case measure => simp [intOf]; omega
      · rw [he] at CP
        have HA : Hid (∀ X, Below wr.heap.size wr X → X.cell? ⟨h.b, h.o + 4 + 5, none⟩ = some (.bool h.x.b1) ∧ X.frozen? ⟨h.b, h.o + 4 + 5, none⟩ = false ∧ _) := fun X hX => ⟨(HNX.out X hX).1, (HNX.out X hX).2.1, (HNX.out X hX).2.2.2 he⟩
        clear HNX he
        go_wp2_with (go_at_fn g; refine CP.mono ?_; rintro e w4 ⟨rfl, hb4⟩; obtain ⟨y9, yf, hnx⟩ := HA.out _ hb4; have HX : Hid _ := hnx; clear hnx)
        go_roundw
        case rel => exact ⟨k + 1, by omega, by go_num, HX.out⟩
        case measure => simp [intOf]; omega
    · have ek : k = n := by omega
      subst ek
      have ml1 := HMN.out.1
      have ml2 := HMN.out.2
      rw [turnP_all (by omega), turnP_all (by omega)] at hs
      have sT : S4 wr T (.int .i64 bu) (.int .i64 gu) (.slice b1 M1 k1) (.slice b2 M2 k2) := by
        have s3 := HCT.out.s.keep HB3.out
        have nT : T ∉ fp (.slice b1 M1 k1) m1 ++ fp (.slice b2 M2 k2) m2 := fun hm => by
          rcases List.mem_append.1 hm with hm | hm
          · exact HCT.out.t1 hm
          · exact HCT.out.t2 hm
        exact ⟨by rw [hou.cell T 0 s3.lt nT]; exact s3.c0, by rw [hou.cell T 1 s3.lt nT]; exact s3.c1, by rw [hou.cell T 2 s3.lt nT]; exact s3.c2, by rw [hou.cell T 3 s3.lt nT]; exact s3.c3, fun o => by rw [hou.frozen T o s3.lt nT]; exact s3.fr o, Nat.lt_of_lt_of_le s3.lt hou.size⟩
      obtain ⟨bw, s4, hlo⟩ := HWW.out wr hb
      have HO : Hid (StoLV wr lo (.slice b1 M1 k1) (.slice b2 M2 k2) (turnM p softE m1) (turnM p softE m2) ∧ w.heap.size + 1 < lo ∧ Below w.heap.size w wr ∧ (turnM p softE m1).map Prod.fst = turnE p softE (tl.map Prod.fst) ∧ (turnM p softE m2).map Prod.fst = turnE p softE (kl.map Prod.fst)) := ⟨hs, hlo, bw, by rw [turnM_fst, HCT.out.e1], by rw [turnM_fst, HCT.out.e2]⟩
      have y0 := sT.c0
      have y1 := sT.c1
      have y2 := sT.c2
      have y3 := sT.c3
      have z0 := s4.c0
      have z1 := s4.c1
      have z2 := s4.c2
      have z3 := s4.c3
      have zf0 := s4.fr 0
      have zf1 := s4.fr 1
      have zf2 := s4.fr 2
      have zf3 := s4.fr 3
      clear s4 sT hs hou hb bw HWW HAL HPF ml1 ml2
      go_wp2_with fail
      refine bodyPost_ret (v := .agg #[.int .i64 bu, .int .i64 gu, .slice b1 M1 k1, .slice b2 M2 k2]) (by simp [results, Tryz.results131, go_sem, z0, z1, z2, z3]) rfl ?_
      obtain ⟨o, hlt, hB, x1, x2⟩ := HO.out
      exact ⟨⟨b1, k1, M1, b2, k2, M2, _, _, rfl, x1, x2, ((((o.off1 _ hlt).off1 _ hlt).off1 _ hlt).off1 _ hlt).lower (by omega)⟩, (((hB.setCell (by simp) _).setCell (by simp) _).setCell (by simp) _).setCell (by simp) _⟩
end Go.Proofs.YtaphofdcoddopaaGreatDoor
/-
  The model's keys of all entries, of one key; purges as a whole, by the model.
-/
namespace Go.Proofs.YtaphofdcoddopaaGreatDoor
open Go.ChangeShapes Go.WideShapes Go.ChangeAt Go.RowKit Go.Sort
def anyP (_ : Ent) : Bool := true
set_option maxRecDepth 100000 in
set_option maxHeartbeats 8000000 in
theorem l9All_at (w : World) (S : Nat) (ta ka : Option Addr) (tc kc : Nat) (tl kl : List (Ent × EntR)) (c2 : w.cell? ⟨S, 2, none⟩ = some (.slice ta tl.length tc)) (c3 : w.cell? ⟨S, 3, none⟩ = some (.slice ka kl.length kc)) (hl : tl.length + kl.length ≤ 1000000) (ht : EntsIn w ta tl) (hk : EntsIn w ka kl) :
    Calls Tryz.prog 94 #[.pointer (some ⟨S, 0, none⟩)] w fun e w' => (∃ v, e = .returned v ∧ RowT w' w.heap.size v (keysP (anyP) (tl.map Prod.fst ++ kl.map Prod.fst))) ∧ Below w.heap.size w w' := by
  obtain ⟨i0, hi0, hz0, hz1, hz2⟩ := info_parts cTextI
  obtain ⟨W, hW⟩ : ∃ W, W = w.alloc (.cells #[] 9) := ⟨_, rfl⟩
  have HW : Hid (W = w.alloc (.cells #[] 9)) := hW
  have bW : Below w.heap.size w W := by rw [hW]; exact (Below.refl _ _).alloc (Nat.le_refl _) _
  have hS : S < w.heap.size := block_lt_of_cell c2
  have CA : Hid (Calls Tryz.prog 103 #[.pointer (some ⟨S, 0, none⟩)] W fun e w' => (∃ v, e = .returned v ∧ OwnE w' W.heap.size v (tl ++ kl)) ∧ Below W.heap.size W w') := l8All_any W S 0 ta ka tc kc tl kl (by rw [bW.cell (p := ⟨S, 0 + 2, none⟩) hS]; exact c2) (by rw [bW.cell (p := ⟨S, 0 + 3, none⟩) hS]; exact c3) hl (ht.keep bW) (hk.keep bW)
  have HIN : Hid (∀ X, Below w.heap.size w X → ∀ q ∈ tl ++ kl, EntIn X q.1 q.2) := fun X hX q hq' => by
    rcases List.mem_append.1 hq' with h | h
    · rcases ht.keep hX with e | ⟨b, off, _, hat⟩
      · subst e; simp at h
      · obtain ⟨i, hi⟩ := List.mem_iff_getElem?.1 h; exact hat.in hi
    · rcases hk.keep hX with e | ⟨b, off, _, hat⟩
      · subst e; simp at h
      · obtain ⟨i, hi⟩ := List.mem_iff_getElem?.1 h; exact hat.in hi
  have HR0 : Hid (RowT W w.heap.size (.slice (some ⟨w.heap.size, 0, none⟩) 0 0) [] ∧ Below w.heap.size w W) := ⟨by rw [hW]; exact RowT.made0 w _ (Nat.le_refl _), bW⟩
  have HWS : Hid (w.heap.size + 1 ≤ W.heap.size) := by rw [hW]; simp [Hid]
  rw [← List.map_append]
  have hln : (tl ++ kl).length ≤ 1000000 := by rw [List.length_append]; exact hl
  clear hW bW c2 c3 ht hk hS hl
  generalize tl ++ kl = al at *
  go_enter Tryz.func94, Tryz.ntmps94
  go_wp2_with fail
  rw [← HW.out]
  refine CA.out.mono ?_
  rintro e w1 ⟨⟨v, rfl, ho⟩, hb1⟩
  have hbb := HR0.out.2.trans (hb1.mono HR0.out.2.size)
  obtain ⟨a, c, rfl, _, hi⟩ := ho.at (HIN.out _ hbb)
  have K1 : Hid (KW w w1 (.slice a al.length c) al (.slice (some ⟨w.heap.size, 0, none⟩) 0 0) w1 ∧ RowT w1 w.heap.size (.slice (some ⟨w.heap.size, 0, none⟩) 0 0) []) := ⟨⟨hbb, ho.lower HWS.out, fun q hq => .inl (Option.some.inj hq).symm, fun q hq => (World.ownsRow.lt ho q hq).2, Nat.le_refl _⟩, HR0.out.1.below hb1⟩
  clear HW CA hb1 hbb ho hi HR0 HWS
  obtain ⟨n, hn0⟩ : ∃ n, al.length = n := ⟨_, rfl⟩
  rw [hn0] at hln K1 ⊢
  have HN : Hid (al.length = n) := hn0
  clear hn0
  go_wp2_with fail
  go_loopw [3, 5] (fun v i wr => ∃ k : Nat, k ≤ n ∧ i = .int .i64 (k : Int) ∧ RowT wr w.heap.size v (keysP (anyP) ((al.take k).map Prod.fst)) ∧ KW w w1 (.slice a n c) al v wr) (fun _ i _ => n - (intOf i).toNat)
  case atStart => exact ⟨0, Nat.zero_le _, rfl, by simpa [keysP] using K1.out.2, K1.out.1⟩
  case round =>
    obtain ⟨k, hk, rfl, ho, hkw⟩ := hrel
    clear K1
    by_cases hlt : k < n
    · obtain ⟨⟨x, r⟩, hr⟩ : ∃ r, al[k]? = some r := ⟨al[k]'(by have := HN.out; omega), List.getElem?_eq_getElem _⟩
      have hin : EntsIn wr a al := by
        obtain ⟨a', c', e', _, hi⟩ := hkw.all.at (HIN.out _ hkw.b)
        simp only [Value.slice.injEq] at e'
        rw [e'.1]; exact hi
      rcases hin with h | ⟨b, off, rfl, hat⟩
      · subst h; simp at hr
      have cc := hat.cells hr
      have p0 := cc.1
      simp only at p0
      have hnx := keysP_next (p := anyP) hr
      simp only at hnx
      have hle : (keysP (anyP) ((al.take k).map Prod.fst)).length ≤ 1000000 := by
        have := keysP_len (anyP) ((al.take k).map Prod.fst)
        rw [List.length_map, List.length_take] at this
        omega
      obtain ⟨m, hm⟩ : ∃ m, m = keysP (anyP) ((al.take k).map Prod.fst) := ⟨_, rfl⟩
      rw [← hm] at ho hnx hle
      obtain ⟨va, vc, rfl, hvc⟩ := row_form ho
      have HO : Hid (RowT wr w.heap.size (.slice va m.length vc) m) := ho
      have HB : Hid (KW w w1 (.slice (some ⟨b, off, none⟩) n c) al (.slice va m.length vc) wr) := hkw
      have gk : (k : Int) < n := by omega
      have gk0 : (0 : Int) ≤ k := by omega
      clear hat hr hm ho hkw cc HIN
      ·
        have he : anyP x = true := rfl
        rw [he] at hnx
        simp only [if_true] at hnx
        obtain ⟨xk, hxk⟩ : ∃ t, x.key = t := ⟨_, rfl⟩
        rw [hxk] at hnx p0
        have K2 : Below wr.heap.size wr (wr.alloc (.cells #[.string xk] 9)) := (Below.refl _ _).alloc (Nat.le_refl _) _
        obtain ⟨mn, hmn⟩ : ∃ q, m.length = q := ⟨_, rfl⟩
        have O2 : Hid ((wr.alloc (.cells #[.string xk] 9)).ownsRow w.heap.size 9 1 (.slice va mn vc) mn (cTexts m)) := by
          have := HO.out.below K2
          unfold RowT at this
          rw [hmn] at this
          exact this
        have s2 : Hid (w.heap.size ≤ (wr.alloc (.cells #[.string xk] 9)).heap.size) := by show _ ≤ _; have := K2.size; have := HB.out.b.size; omega
        have HA : Hid (∀ g cap w3, w3.ownsRow w.heap.size 9 1 (.slice (some ⟨g, 0, none⟩) (mn + 1) cap) (mn + 1) (cTexts m ++ [.string xk]) → (wr.alloc (.cells #[.string xk] 9)).grownBy w3 (Value.slice va mn vc).ownBlock → ((Value.slice va mn vc).ownBlock = some g ∨ g = (wr.alloc (.cells #[.string xk] 9)).heap.size) → RowT w3 w.heap.size (.slice (some ⟨g, 0, none⟩) (mn + 1) cap) (keysP (anyP) ((al.take (k + 1)).map Prod.fst)) ∧ KW w w1 (.slice (some ⟨b, off, none⟩) n c) al (.slice (some ⟨g, 0, none⟩) (mn + 1) cap) w3) := fun g cap w3 h1 h2 h3 => by
          have := RowT.app (w := w) hmn s2.out O2.out h1 h2 (HB.out.below K2).b rfl
          rw [hnx]
          have hkw := HB.out.below K2
          rw [hmn] at hkw
          exact ⟨this.1, hkw.app h2 this.2 rfl h3⟩
        have HW : Hid (∀ j u, ([Value.string xk] : List Value)[j]? = some u → (wr.alloc (.cells #[.string xk] 9)).cell? ((⟨wr.heap.size, 0, none⟩ : Addr).add j) = some u) := cell_str wr xk _
        rw [hmn] at hle hvc ⊢
        clear K2 hnx HO HB hmn
        go_wp2_with (at_builtin; refine wpList_append_lies _ rfl (.tmp 15) (.tmp 21) 44 rfl w.heap.size 9 i0 _ 1 16 Tryz.underlying44 hi0 hz0 hz1 hz2 rfl (by omega) _ mn (cTexts m) rfl O2.out _ 1 1 [.string xk] rfl rfl HW.out (by simp [Value.oneCell']) (by omega) (by unfold maxLen; omega) (by omega) s2.out _ rfl ?_; intro g cp w3 h1 h2 h3 h4)
        go_roundw
        case rel => exact ⟨k + 1, by omega, by go_num, (HA.out _ _ _ h1 h2 h3).1, (HA.out _ _ _ h1 h2 h3).2⟩
        case measure => simp [intOf]; omega
    · have ek : k = n := by omega
      subst ek
      obtain ⟨va, vc, rfl, _⟩ := row_form ho
      have HE : Hid ((∃ v', Ending.returned (.slice va (keysP (anyP) ((al.take k).map Prod.fst)).length vc) = .returned v' ∧ RowT wr w.heap.size v' (keysP (anyP) (al.map Prod.fst))) ∧ Below w.heap.size w wr) := ⟨⟨_, rfl, by rw [List.take_of_length_le (by have := HN.out; omega)] at ho ⊢; exact ho⟩, hkw.b⟩
      clear ho hkw
      go_wp2_with fail
      go_ret
      exact HE.out
theorem keysP_none {p : Ent → Bool} {L : List Ent} (h : ∀ x ∈ L, p x = false) : keysP p L = [] := by
  unfold keysP
  rw [List.filter_eq_nil_iff.2 (fun x hx => by simp [h x hx])]
  rfl
theorem keysP_key {key : ByteArray} {L : List Ent} {x : Ent} (hn : NdK L) (hx : L.find? (isKey key) = some x) : keysP (isKey key) L = [key] := by
  obtain ⟨hk, A, B, rfl, hA⟩ := List.find?_eq_some_iff_append.1 hx
  have e : x.key = key := by rw [isKey_iff] at hk; simpa using (of_decide_eq_true hk).symm
  have hB : ∀ y ∈ B, isKey key y = false := fun y hy => by
    by_cases c : isKey key y = true
    · have h2 : NdK ([x] ++ B) := (NdK.app hn).2.1
      exact absurd (isKey_eq hk c) ((NdK.app h2).2.2 x (by simp) y hy)
    · simpa using c
  unfold keysP
  rw [List.filter_append, List.filter_cons_of_pos hk, List.filter_eq_nil_iff.2 (fun a ha => by have := hA a ha; simpa using this), List.filter_eq_nil_iff.2 (fun y hy => by simp [hB y hy])]
  simp [e]
theorem RowT.one (w : World) (base : Nat) (t : ByteArray) (hb : base ≤ w.heap.size) : RowT (w.alloc (.cells #[.string t] 9)) base (.slice (some ⟨w.heap.size, 0, none⟩) 1 1) [t] := by
  refine ⟨rfl, .inr ⟨w.heap.size, 1, #[.string t], rfl, hb, heap_alloc_new w _, Nat.le_refl _, by unfold maxLen; omega, rfl, rfl⟩⟩
set_option maxRecDepth 100000 in
set_option maxHeartbeats 8000000 in
theorem l9Keys_at (w : World) (S : Nat) (key : ByteArray) (ta ka : Option Addr) (tc kc : Nat) (tl kl : List (Ent × EntR)) (c2 : w.cell? ⟨S, 2, none⟩ = some (.slice ta tl.length tc)) (c3 : w.cell? ⟨S, 3, none⟩ = some (.slice ka kl.length kc)) (hl : tl.length + kl.length ≤ 1000000) (hf : ∀ q ∈ tl ++ kl, EntFit q.1) (ht : EntsIn w ta tl) (hk : EntsIn w ka kl) (hn : NdK (tl.map Prod.fst ++ kl.map Prod.fst)) :
    Calls Tryz.prog 91 #[.pointer (some ⟨S, 0, none⟩), .string key] w fun e w' => (∃ v, e = .returned v ∧ RowT w' w.heap.size v (keysP (isKey key) (tl.map Prod.fst ++ kl.map Prod.fst))) ∧ Below w.heap.size w w' := by
  have CP : Hid (Calls Tryz.prog 58 #[.pointer (some ⟨S, 0, none⟩), .string key] w fun e w' => ((∃ x r, keysP (isKey key) (tl.map Prod.fst ++ kl.map Prod.fst) = [key] ∧ e = .returned (.tuple #[entV x r, .bool true])) ∨ (keysP (isKey key) (tl.map Prod.fst ++ kl.map Prod.fst) = [] ∧ e = .returned (.tuple #[entV zeroEnt zeroR, .bool false]))) ∧ Below w.heap.size w w') := by
    refine (l8Peek_at w S key ta ka tc kc tl kl c2 c3 hl (fun q hq => ⟨(hf q hq).h, (hf q hq).b, (hf q hq).t⟩) ht hk).mono ?_
    rintro e w' ⟨h, hb⟩
    rcases h with ⟨x, r, hx, he, _⟩ | ⟨hx, he⟩
    · exact ⟨.inl ⟨x, r, keysP_key hn hx, he⟩, hb⟩
    · exact ⟨.inr ⟨keysP_none (fun x hx' => by have := List.find?_eq_none.1 hx x hx'; simpa using this), he⟩, hb⟩
  clear c2 c3 hl hf ht hk hn
  generalize keysP (isKey key) (tl.map Prod.fst ++ kl.map Prod.fst) = K at *
  go_enter Tryz.func91, Tryz.ntmps91
  go_wp2_with fail
  refine CP.out.mono ?_
  rintro e w1 ⟨hc, hb1⟩
  clear CP
  rcases hc with ⟨x, r, hK, rfl⟩ | ⟨hK, rfl⟩
  · unfold entV entW
    subst hK
    obtain ⟨W, hW⟩ : ∃ W, W = w1.alloc (.cells #[.string x.key, .int .i64 x.st, .slice r.ha x.hs.length r.hc, .slice r.ba x.bl.length r.bc, .int .i64 x.t, .int .i64 x.g, .int .i64 x.l, .int .i64 x.s, .int .i64 x.e, .bool x.b1, .bool x.b2, .slice r.ta x.ts.length r.tc, .int .i64 x.pins] 54) := ⟨_, rfl⟩
    have HW : Hid (W = w1.alloc (.cells #[.string x.key, .int .i64 x.st, .slice r.ha x.hs.length r.hc, .slice r.ba x.bl.length r.bc, .int .i64 x.t, .int .i64 x.g, .int .i64 x.l, .int .i64 x.s, .int .i64 x.e, .bool x.b1, .bool x.b2, .slice r.ta x.ts.length r.tc, .int .i64 x.pins] 54)) := hW
    have bW : Below w.heap.size w W := by rw [hW]; exact hb1.alloc hb1.size _
    have HE : Hid (RowT (W.alloc (.cells #[.string key] 9)) w.heap.size (.slice (some ⟨W.heap.size, 0, none⟩) 1 1) [key] ∧ Below w.heap.size w (W.alloc (.cells #[.string key] 9))) := ⟨RowT.one W _ key bW.size, bW.alloc bW.size _⟩
    have hz : W.heap.size = w1.heap.size + 1 := by rw [hW]; simp
    rw [hz] at HE
    clear hW bW hb1 hz
    go_wp2_with fail
    rw [← HW.out]
    go_ret
    exact ⟨⟨_, rfl, HE.out.1⟩, HE.out.2⟩
  · unfold entV entW zeroEnt zeroR
    subst hK
    simp only [List.length_nil]
    have HE : Hid (Below w.heap.size w (w1.alloc (.cells #[.string ⟨#[]⟩, .int .i64 0, .slice none 0 0, .slice none 0 0, .int .i64 0, .int .i64 0, .int .i64 0, .int .i64 0, .int .i64 0, .bool false, .bool false, .slice none 0 0, .int .i64 0] 54))) := hb1.alloc hb1.size _
    clear hb1
    go_wp2_with fail
    go_ret
    exact ⟨⟨_, rfl, RowT.nil _ _⟩, HE.out⟩
/-! ### a purge as a whole -/
def resM (hard : Bool) (ks : List ByteArray) (m : List (Ent × EntR)) : List (Ent × EntR) := if hard then offKs ks m else turnM (inK ks) softE m
def resE (hard : Bool) (q : Ent → Bool) (L : List Ent) : List Ent := if hard then L.filter (fun x => !q x) else turnE q softE L
theorem resM_map (hard : Bool) (ks : List ByteArray) (m : List (Ent × EntR)) : (resM hard ks m).map Prod.fst = resE hard (inK ks) (m.map Prod.fst) := by
  cases hard
  · exact turnM_fst _ _ _
  · exact offKs_map _ _
theorem TLV.low {w w' : World} {B : Nat} {v : Value} {l : List ByteArray} (h : TLV w v l) (hb : ∀ b, v.ownBlock = some b → b < B) (k : Below B w w') : TLV w' v l := by
  rcases h with h | ⟨g, c, rfl, hg, hi, hf⟩
  · exact .inl h
  · have hB := hb g rfl
    exact .inr ⟨g, c, rfl, Nat.lt_of_lt_of_le hg k.size, fun i q hq => by rw [k.cell (p := ⟨g, 0 + i, none⟩) hB]; exact hi i q hq, fun o => by rw [k.frozen (p := ⟨g, o, none⟩) hB]; exact hf o⟩
theorem TLV.at_in {w : World} {a : Option Addr} {n c : Nat} {l : List ByteArray} (h : TLV w (.slice a n c) l) : n = l.length ∧ TIn w a l := by
  obtain ⟨a', c', e, hi⟩ := h.tin
  simp only [Value.slice.injEq] at e
  obtain ⟨rfl, rfl, rfl⟩ := e
  exact ⟨rfl, hi⟩
theorem l9Purge_at (w : World) (B base : Nat) (bu gu : Int) (a1 a2 : Option Addr) (n1 k1 n2 k2 : Nat) (l1 l2 : List (Ent × EntR)) (a : Option Addr) (n kc : Nat) (ks : List ByteArray) (hard : Bool) (hks : ks.length ≤ 1000) (hs : S4 w B (.int .i64 bu) (.int .i64 gu) (.slice a1 n1 k1) (.slice a2 n2 k2)) (h : StoO w base (.slice a1 n1 k1) (.slice a2 n2 k2) l1 l2) (hbase : base ≤ w.heap.size) (hbB : base ≤ B) (hB1 : B ∉ fp (.slice a1 n1 k1) l1) (hB2 : B ∉ fp (.slice a2 n2 k2) l2) (z1 : l1.length ≤ 1000) (z2 : l2.length ≤ 1000) (hk : TLV w (.slice a n kc) ks) (hkb : ∀ b, (Value.slice a n kc).ownBlock = some b → b < base) :
    Calls Tryz.prog 129 #[.pointer (some ⟨B, 0, none⟩), .slice a n kc, .bool hard] w fun e w' => e = .returned (.tuple #[]) ∧ (∃ a1 k1 n1 a2 k2 n2, S4 w' B (.int .i64 bu) (.int .i64 gu) (.slice a1 n1 k1) (.slice a2 n2 k2) ∧ StoLV w' base (.slice a1 n1 k1) (.slice a2 n2 k2) (resM hard ks l1) (resM hard ks l2)) ∧ Below base w w' := by
  obtain ⟨rfl, _⟩ := hk.at_in
  have hk' : ∀ X, Below base w X → TIn X a ks := fun X hX => (hk.low hkb hX).at_in.2
  cases hard
  · refine (l9SoftS_at w B base bu gu a1 a2 n1 k1 n2 k2 l1 l2 a kc ks hks hs h.lv hbase hB1 hB2 z1 z2 hk').mono ?_
    rintro e w' ⟨h1, ⟨h2, h3⟩, h4⟩
    exact ⟨h1, ⟨a1, k1, n1, a2, k2, n2, h2, h3⟩, h4⟩
  · exact l9Hard_at w B base bu gu _ _ l1 l2 a kc ks hks hs h hbase hbB hB1 hB2 (by omega) (by omega) hk'
set_option maxRecDepth 100000 in
set_option maxHeartbeats 16000000 in
theorem l9Do_at (w : World) (S kb : Nat) (bu gu : Int) (ta ka : Option Addr) (tc kc : Nat) (tl kl : List (Ent × EntR)) (a : Option Addr) (n c : Nat) (ks : List ByteArray) (hard : Bool) (hs : S4 w S (.int .i64 bu) (.int .i64 gu) (.slice ta tl.length tc) (.slice ka kl.length kc)) (hl : tl.length + kl.length ≤ 40) (f1 : ∀ q ∈ tl ++ kl, EntFit q.1) (ht : EntsIn w ta tl) (hq : EntsIn w ka kl) (hks : ks.length ≤ 1000) (hr : RowT w kb (.slice a n c) ks) (hkb : kb ≤ w.heap.size) :
    Calls Tryz.prog 90 #[.pointer (some ⟨S, 0, none⟩), .slice a n c, .bool hard] w fun e w' => PurAns ⟨0, bu, gu, resE hard (inK ks) (tl.map Prod.fst), resE hard (inK ks) (kl.map Prod.fst), ks⟩ kb e w' ∧ Below w.heap.size w w' := by
  obtain ⟨W, hW⟩ : ∃ W, W = w.alloc (.cells #[.int .i64 0, .int .i64 0, .int .i64 0, .slice none 0 0, .slice none 0 0, .slice none 0 0] 67) := ⟨_, rfl⟩
  have HW : Hid (W = w.alloc (.cells #[.int .i64 0, .int .i64 0, .int .i64 0, .slice none 0 0, .slice none 0 0, .slice none 0 0] 67)) := hW
  have bW : Below w.heap.size w W := by rw [hW]; exact (Below.refl _ _).alloc (Nat.le_refl _) _
  have sS := hs.keep bW
  have tlv := hr.lv.1
  have tlt : ∀ b, (Value.slice a n c).ownBlock = some b → b < w.heap.size := fun b e => tlv.block_lt b e
  have K0 : Hid (Below w.heap.size w W ∧ S6 W w.heap.size (.int .i64 0) (.int .i64 0) (.int .i64 0) (.slice none 0 0) (.slice none 0 0) (.slice none 0 0) ∧ W.heap.size = w.heap.size + 1) := ⟨bW, by rw [hW]; exact S6.new w _ _ _ _ _ _ _, by rw [hW]; simp⟩
  have CC : Hid (Calls Tryz.prog 70 #[.pointer (some ⟨S, 0, none⟩)] W fun e w' => (∃ a1 k1 n1 a2 k2 n2 m1 m2, e = .returned (.agg #[.int .i64 bu, .int .i64 gu, .slice a1 n1 k1, .slice a2 n2 k2]) ∧ m1.map Prod.fst = tl.map Prod.fst ∧ m2.map Prod.fst = kl.map Prod.fst ∧ StoO w' W.heap.size (.slice a1 n1 k1) (.slice a2 n2 k2) m1 m2) ∧ Below W.heap.size W w') := by
    refine (l8Copy_at W S bu gu ta ka tc kc tl kl ⟨sS.c0, sS.c1, sS.c2, sS.c3⟩ sS.lt (by omega) (by omega) (fun q h => f1 q (List.mem_append.2 (.inl h))) (fun q h => f1 q (List.mem_append.2 (.inr h))) (ht.keep bW) (hq.keep bW)).mono ?_
    rintro e w' ⟨⟨v1, v2, m1, m2, rfl, q1, q2, o⟩, hb⟩
    obtain ⟨a1, k1, rfl, _⟩ := row_form o.t.own
    obtain ⟨a2, k2, rfl, _⟩ := row_form o.k.own
    exact ⟨⟨a1, k1, _, a2, k2, _, m1, m2, rfl, q1, q2, o⟩, hb⟩
  have HT : Hid (∀ X, Below w.heap.size w X → TLV X (.slice a n c) ks) := fun X hX => tlv.low (B := w.heap.size) tlt hX
  have HTB : Hid (∀ b, (Value.slice a n c).ownBlock = some b → kb ≤ b ∧ b < w.heap.size) := fun b e => ⟨hr.lv.2 b e, tlt b e⟩
  have HL : Hid (tl.length + kl.length ≤ 40 ∧ ks.length ≤ 1000 ∧ kb ≤ w.heap.size) := ⟨hl, hks, hkb⟩
  clear hW bW sS tlv tlt hs hl f1 ht hq hks hr hkb
  go_enter Tryz.func90, Tryz.ntmps90
  go_wp2_with fail
  rw [← HW.out]
  refine CC.out.mono ?_
  rintro r0 w1 ⟨⟨a1, k1, n1, a2, k2, n2, m1, m2, rfl, q1, q2, o⟩, hb1⟩
  obtain ⟨V1, hV1⟩ : ∃ V, V = w1.alloc (.cells #[.int .i64 bu, .int .i64 gu, .slice a1 n1 k1, .slice a2 n2 k2] 28) := ⟨_, rfl⟩
  have HV1 : Hid (V1 = w1.alloc (.cells #[.int .i64 bu, .int .i64 gu, .slice a1 n1 k1, .slice a2 n2 k2] 28)) := hV1
  have aV : Below w1.heap.size w1 V1 := by rw [hV1]; exact (Below.refl _ _).alloc (Nat.le_refl _) _
  have bV : Below W.heap.size W V1 := hb1.trans (aV.mono hb1.size)
  have bw : Below w.heap.size w V1 := K0.out.1.trans (bV.mono K0.out.1.size)
  have sV : S4 V1 w1.heap.size (.int .i64 bu) (.int .i64 gu) (.slice a1 n1 k1) (.slice a2 n2 k2) := by rw [hV1]; exact S4.new w1 _ _ _ _ _
  have ln1 : m1.length = tl.length := by have := congrArg List.length q1; simpa using this
  have ln2 : m2.length = kl.length := by have := congrArg List.length q2; simpa using this
  have hln := HL.out
  have hz := K0.out.2.2
  have CP : Hid _ := l9Purge_at V1 w1.heap.size W.heap.size bu gu a1 a2 n1 k1 n2 k2 m1 m2 a n c ks hard hln.2.1 sV (o.below aV) bV.size hb1.size (fun h => by have := o.t.lt h; omega) (fun h => by have := o.k.lt h; omega) (by omega) (by omega) (HT.out V1 bw) (fun b e => by have := (HTB.out b e).2; omega)
  have K1 : Hid (Below w.heap.size w V1 ∧ S6 V1 w.heap.size (.int .i64 0) (.int .i64 0) (.int .i64 0) (.slice none 0 0) (.slice none 0 0) (.slice none 0 0) ∧ W.heap.size = w.heap.size + 1) := ⟨bw, K0.out.2.1.keep bV, hz⟩
  have HM : Hid ((resM hard ks m1).map Prod.fst = resE hard (inK ks) (tl.map Prod.fst) ∧ (resM hard ks m2).map Prod.fst = resE hard (inK ks) (kl.map Prod.fst)) := ⟨by rw [resM_map, q1], by rw [resM_map, q2]⟩
  clear hV1 aV bV bw sV hb1 K0 o q1 q2 ln1 ln2 CC HW hln hz
  go_wp2_with fail
  rw [← HV1.out]
  refine Calls.mono CP.out ?_
  rintro e0 w2 ⟨rfl, ⟨a3, k3, n3, a4, k4, n4, s2, o2⟩, hb2⟩
  have hs6 : S6 w2 w.heap.size (.int .i64 0) (.int .i64 0) (.int .i64 0) (.slice none 0 0) (.slice none 0 0) (.slice none 0 0) := K1.out.2.1.low hb2 (by have := K1.out.2.2; omega)
  have HB : Hid (Below w.heap.size w w2) := K1.out.1.trans (hb2.mono (by have := K1.out.2.2; omega))
  have HO2 : Hid (StoLV w2 W.heap.size (.slice a3 n3 k3) (.slice a4 n4 k4) (resM hard ks m1) (resM hard ks m2) ∧ w.heap.size < W.heap.size) := ⟨o2, by have := K1.out.2.2; omega⟩
  have z0 := hs6.c0
  have z1 := hs6.c1
  have z2 := hs6.c2
  have z3 := hs6.c3
  have z4 := hs6.c4
  have z5 := hs6.c5
  have zf0 := hs6.fr 0
  have zf1 := hs6.fr 1
  have zf2 := hs6.fr 2
  have zf3 := hs6.fr 3
  have zf4 := hs6.fr 4
  have zf5 := hs6.fr 5
  have y0 := s2.c0
  have y1 := s2.c1
  have y2 := s2.c2
  have y3 := s2.c3
  clear hs6 s2 o2 hb2 K1 CP HV1
  go_wp2_with fail
  refine bodyPost_ret (v := .agg #[.int .i64 0, .int .i64 bu, .int .i64 gu, .slice a3 n3 k3, .slice a4 n4 k4, .slice a n c]) (by simp [results, Tryz.results90, go_sem, z0, z1, z2, z3, z4, z5]) rfl ?_
  have hlt := HO2.out.2
  have hB := (((((HB.out.setCell (p := ⟨w.heap.size, 0, none⟩) (Nat.le_refl _) (.int .i64 0)).setCell (p := ⟨w.heap.size, 1, none⟩) (Nat.le_refl _) (.int .i64 bu)).setCell (p := ⟨w.heap.size, 2, none⟩) (Nat.le_refl _) (.int .i64 gu)).setCell (p := ⟨w.heap.size, 3, none⟩) (Nat.le_refl _) (.slice a3 n3 k3)).setCell (p := ⟨w.heap.size, 4, none⟩) (Nat.le_refl _) (.slice a4 n4 k4)).setCell (p := ⟨w.heap.size, 5, none⟩) (Nat.le_refl _) (.slice a n c)
  have hO := ((((((HO2.out.1.off1 (i := 0) (.int .i64 0) hlt).off1 (i := 1) (.int .i64 bu) hlt).off1 (i := 2) (.int .i64 gu) hlt).off1 (i := 3) (.slice a3 n3 k3) hlt).off1 (i := 4) (.slice a4 n4 k4) hlt).off1 (i := 5) (.slice a n c) hlt)
  have hkw := HL.out.2.2
  exact ⟨PurAns.got hO (by omega) HM.out.1 HM.out.2 (HT.out _ hB) (fun q e => ⟨(HTB.out q e).1, fun hm => by have := hO.t.ge hm; have := (HTB.out q e).2; omega, fun hm => by have := hO.k.ge hm; have := (HTB.out q e).2; omega⟩), hB⟩
end Go.Proofs.YtaphofdcoddopaaGreatDoor
/-
  PurgeKey, PurgeTag, PurgeAll, by the model.
-/
namespace Go.Proofs.YtaphofdcoddopaaGreatDoor
open Go.ChangeShapes Go.WideShapes Go.ChangeAt Go.RowKit Go.Sort
open Classical in
noncomputable def purA (bu gu : Int) (tl kl : List Ent) (p : Ent → Bool) (hard : Bool) : QAns :=
  if storeC bu gu tl kl ≠ 0 then badQ (storeC bu gu tl kl) else ⟨0, bu, gu, resE hard p tl, resE hard p kl, keysP p (tl ++ kl)⟩
theorem key_same {L : List Ent} (hn : NdK L) {x y : Ent} (hx : x ∈ L) (hy : y ∈ L) (e : x.key = y.key) : x = y := by
  unfold NdK keysE at hn
  obtain ⟨i, hi, rfl⟩ := List.mem_iff_getElem.1 hx
  obtain ⟨j, hj, rfl⟩ := List.mem_iff_getElem.1 hy
  have := (List.getElem_inj (xs := L.map fun x => x.key.toList) (h₀ := by simpa using hi) (h₁ := by simpa using hj) hn).1 (by simp [e])
  subst this
  rfl
theorem inK_keysP {p : Ent → Bool} {L : List Ent} (hn : NdK L) {x : Ent} (hx : x ∈ L) : inK (keysP p L) x = p x := by
  unfold inK tagB keysP
  rw [List.any_map]
  cases hp : p x
  · rw [← Bool.not_eq_true]
    intro h
    obtain ⟨y, hy, e⟩ := List.any_eq_true.1 h
    obtain ⟨hy1, hy2⟩ := List.mem_filter.1 hy
    have e' : y.key = x.key := by simpa using e
    rw [key_same hn hy1 hx e'] at hy2
    rw [hp] at hy2
    cases hy2
  · exact List.any_eq_true.2 ⟨x, List.mem_filter.2 ⟨hx, hp⟩, by simp⟩
theorem resE_congr {hard : Bool} {p q : Ent → Bool} {L : List Ent} (h : ∀ x ∈ L, p x = q x) : resE hard p L = resE hard q L := by
  cases hard
  · exact List.map_congr_left fun x hx => by simp [h x hx]
  · exact List.filter_congr fun x hx => by simp [h x hx]
theorem resE_keys {hard : Bool} {p : Ent → Bool} {tl kl : List Ent} (hn : NdK (tl ++ kl)) : resE hard (inK (keysP p (tl ++ kl))) tl = resE hard p tl ∧ resE hard (inK (keysP p (tl ++ kl))) kl = resE hard p kl :=
  ⟨resE_congr fun _ hx => inK_keysP hn (List.mem_append_left _ hx), resE_congr fun _ hx => inK_keysP hn (List.mem_append_right _ hx)⟩
theorem PurAns.off6 {w' : World} {A : QAns} {base b : Nat} {r : QR} (h : QSto w' base w'.heap.size r A.t A.k A.g) (hb : b < base) (u0 u1 u2 u3 u4 u5 : Value) : QSto ((((((w'.setCell ⟨b, 0, none⟩ u0).setCell ⟨b, 1, none⟩ u1).setCell ⟨b, 2, none⟩ u2).setCell ⟨b, 3, none⟩ u3).setCell ⟨b, 4, none⟩ u4).setCell ⟨b, 5, none⟩ u5) base ((((((w'.setCell ⟨b, 0, none⟩ u0).setCell ⟨b, 1, none⟩ u1).setCell ⟨b, 2, none⟩ u2).setCell ⟨b, 3, none⟩ u3).setCell ⟨b, 4, none⟩ u4).setCell ⟨b, 5, none⟩ u5).heap.size r A.t A.k A.g := by
  obtain ⟨m1, m2, e1, e2, h1, h2, h3, h4⟩ := h
  have hO := ((((((h1.off1 (i := 0) u0 hb).off1 (i := 1) u1 hb).off1 (i := 2) u2 hb).off1 (i := 3) u3 hb).off1 (i := 4) u4 hb).off1 (i := 5) u5 hb)
  have o : Out [b] w' ((((((w'.setCell ⟨b, 0, none⟩ u0).setCell ⟨b, 1, none⟩ u1).setCell ⟨b, 2, none⟩ u2).setCell ⟨b, 3, none⟩ u3).setCell ⟨b, 4, none⟩ u4).setCell ⟨b, 5, none⟩ u5) := (((((Out.set w' b 0 u0).trans (Out.set _ b 1 u1)).trans (Out.set _ b 2 u2)).trans (Out.set _ b 3 u3)).trans (Out.set _ b 4 u4)).trans (Out.set _ b 5 u5)
  exact QSto.mk e1 e2 hO (h3.out o (fun q e hm => by simp at hm; subst hm; have := (h4 _ e).1; omega)) (fun q e => ⟨(h4 q e).1, (h4 q e).2.2.1, (h4 q e).2.2.2⟩)
theorem QSto.lower {W : World} {b0 base hi : Nat} {r : QR} {L1 L2 : List Ent} {G : List ByteArray} (h : QSto W base hi r L1 L2 G) (hb : b0 ≤ base) : QSto W b0 hi r L1 L2 G := by
  obtain ⟨m1, m2, e1, e2, h1, h2, h3, h4⟩ := h
  exact ⟨m1, m2, e1, e2, h1.lower hb, h2, h3, fun b e => ⟨Nat.le_trans hb (h4 b e).1, (h4 b e).2⟩⟩
set_option maxRecDepth 100000 in
set_option maxHeartbeats 16000000 in
theorem specPurgeTag_any (w : World) (bu gu : Int) (ta ka : Option Addr) (tc kc : Nat) (tl kl : List (Ent × EntR)) (tag : ByteArray) (hard : Bool) (hl : tl.length ≤ 1048576) (hk : kl.length ≤ 1048576) (hto : ∀ q ∈ tl ++ kl, EntOk q.1) (hft : ∀ q ∈ tl ++ kl, EntFit q.1) (ht : EntsIn w ta tl) (hq : EntsIn w ka kl) :
    Calls Tryz.prog 43 #[.agg #[.int .i64 bu, .int .i64 gu, .slice ta tl.length tc, .slice ka kl.length kc], .string tag, .bool hard] w fun e w' => PurAns (purA bu gu (tl.map Prod.fst) (kl.map Prod.fst) (tagP tag) hard) w.heap.size e w' ∧ Below w.heap.size w w' := by
  have HF : Hid (∀ X, Below w.heap.size w X → Calls Tryz.prog 68 #[.agg #[.int .i64 bu, .int .i64 gu, .slice ta tl.length tc, .slice ka kl.length kc]] X fun r w' => r = .returned (.int .i64 (storeC bu gu (tl.map Prod.fst) (kl.map Prod.fst))) ∧ Below X.heap.size X w') := fun X hb => specSto_any X bu gu ta ka tc kc tl kl hl hk hto (ht.keep hb) (hq.keep hb)
  have HT : Hid (storeC bu gu (tl.map Prod.fst) (kl.map Prod.fst) = 0 → ∀ X, Below w.heap.size w X → X.cell? ⟨w.heap.size, 2, none⟩ = some (.slice ta tl.length tc) → X.cell? ⟨w.heap.size, 3, none⟩ = some (.slice ka kl.length kc) → Calls Tryz.prog 87 #[.pointer (some ⟨w.heap.size, 0, none⟩), .string tag] X fun e w' => (∃ a n k, e = .returned (.slice a n k) ∧ RowT w' X.heap.size (.slice a n k) (keysP (tagP tag) (tl.map Prod.fst ++ kl.map Prod.fst))) ∧ Below X.heap.size X w') := fun h0 X hX c2 c3 => by
    have hln : tl.length + kl.length ≤ 1000000 := by have := (storeC_zero h0).2.1; rw [List.length_map, List.length_map] at this; omega
    refine (l9Tagged_at X w.heap.size tag ta ka tc kc tl kl c2 c3 hln hft (ht.keep hX) (hq.keep hX)).mono ?_
    rintro e w' ⟨⟨v, rfl, ho⟩, hb⟩
    obtain ⟨va, vc, rfl, _⟩ := row_form ho
    exact ⟨⟨va, _, vc, rfl, ho⟩, hb⟩
  have HD : Hid (storeC bu gu (tl.map Prod.fst) (kl.map Prod.fst) = 0 → ∀ X kb a n k, Below w.heap.size w X → S4 X w.heap.size (.int .i64 bu) (.int .i64 gu) (.slice ta tl.length tc) (.slice ka kl.length kc) → RowT X kb (.slice a n k) (keysP (tagP tag) (tl.map Prod.fst ++ kl.map Prod.fst)) → kb ≤ X.heap.size → Calls Tryz.prog 90 #[.pointer (some ⟨w.heap.size, 0, none⟩), .slice a n k, .bool hard] X fun e w' => (∃ r : QR, e = .returned (.agg #[.int .i64 0, .int .i64 bu, .int .i64 gu, .slice r.s.a1 r.s.n1 r.s.k1, .slice r.s.a2 r.s.n2 r.s.k2, .slice r.a3 r.n3 r.k3]) ∧ QSto w' kb w'.heap.size r (resE hard (tagP tag) (tl.map Prod.fst)) (resE hard (tagP tag) (kl.map Prod.fst)) (keysP (tagP tag) (tl.map Prod.fst ++ kl.map Prod.fst))) ∧ Below X.heap.size X w') := fun h0 X kb a n k hX hs hr hkb => by
    have hln : tl.length + kl.length ≤ 40 := by have := (storeC_zero h0).2.1; rw [List.length_map, List.length_map] at this; omega
    have hkl : (keysP (tagP tag) (tl.map Prod.fst ++ kl.map Prod.fst)).length ≤ 1000 := by
      have := keysP_len (tagP tag) (tl.map Prod.fst ++ kl.map Prod.fst)
      rw [List.length_append, List.length_map, List.length_map] at this
      omega
    have := l9Do_at X w.heap.size kb bu gu ta ka tc kc tl kl a n k _ hard hs hln hft (ht.keep hX) (hq.keep hX) hkl hr hkb
    rw [(resE_keys (storeC_nd h0)).1, (resE_keys (storeC_nd h0)).2] at this
    exact this
  obtain ⟨W, hW⟩ : ∃ W, W = (w.alloc (.cells #[.int .i64 bu, .int .i64 gu, .slice ta tl.length tc, .slice ka kl.length kc] 28)).alloc (.cells #[.int .i64 0, .int .i64 0, .int .i64 0, .slice none 0 0, .slice none 0 0, .slice none 0 0] 67) := ⟨_, rfl⟩
  have HW : Hid (W = (w.alloc (.cells #[.int .i64 bu, .int .i64 gu, .slice ta tl.length tc, .slice ka kl.length kc] 28)).alloc (.cells #[.int .i64 0, .int .i64 0, .int .i64 0, .slice none 0 0, .slice none 0 0, .slice none 0 0] 67)) := hW
  have K0 : Hid (Below w.heap.size w W ∧ S4 W w.heap.size (.int .i64 bu) (.int .i64 gu) (.slice ta tl.length tc) (.slice ka kl.length kc) ∧ S6 W (w.heap.size + 1) (.int .i64 0) (.int .i64 0) (.int .i64 0) (.slice none 0 0) (.slice none 0 0) (.slice none 0 0) ∧ w.heap.size + 2 ≤ W.heap.size) := by
    rw [hW]
    refine ⟨((Below.refl _ _).alloc (Nat.le_refl _) _).alloc (by simp) _, (S4.new w _ _ _ _ _).keep ((Below.refl _ _).alloc (Nat.le_refl _) _), ?_, by simp⟩
    have := S6.new (w.alloc (.cells #[.int .i64 bu, .int .i64 gu, .slice ta tl.length tc, .slice ka kl.length kc] 28)) (.int .i64 0) (.int .i64 0) (.int .i64 0) (.slice none 0 0) (.slice none 0 0) (.slice none 0 0) 67
    simpa using this
  obtain ⟨A, hA⟩ : ∃ A, purA bu gu (tl.map Prod.fst) (kl.map Prod.fst) (tagP tag) hard = A := ⟨_, rfl⟩
  rw [hA]
  unfold purA at hA
  have HA : Hid (_ = A) := hA
  have e0 := K0.out.2.1.c0
  have e1 := K0.out.2.1.c1
  have e2 := K0.out.2.1.c2
  have e3 := K0.out.2.1.c3
  rw [HW.out] at e0 e1 e2 e3
  clear hW hl hk hto hft ht hq hA
  generalize storeC bu gu (tl.map Prod.fst) (kl.map Prod.fst) = sc at *
  generalize resE hard (tagP tag) (tl.map Prod.fst) = R1 at *
  generalize resE hard (tagP tag) (kl.map Prod.fst) = R2 at *
  generalize keysP (tagP tag) (tl.map Prod.fst ++ kl.map Prod.fst) = KS at *
  generalize tl.length = tn at *
  generalize kl.length = kn at *
  go_enter Tryz.func43, Tryz.ntmps43
  go_wp2_with fail
  rw [← HW.out]
  refine (HF.out _ K0.out.1).mono ?_
  rintro r0 w1 ⟨rfl, hb1⟩
  have K1 : Hid (Below w.heap.size w w1 ∧ S4 w1 w.heap.size (.int .i64 bu) (.int .i64 gu) (.slice ta tn tc) (.slice ka kn kc) ∧ S6 w1 (w.heap.size + 1) (.int .i64 0) (.int .i64 0) (.int .i64 0) (.slice none 0 0) (.slice none 0 0) (.slice none 0 0) ∧ w.heap.size + 2 ≤ w1.heap.size) := ⟨K0.out.1.trans (hb1.mono K0.out.1.size), K0.out.2.1.keep hb1, K0.out.2.2.1.keep hb1, by have := K0.out.2.2.2; have := hb1.size; omega⟩
  clear K0 HW hb1 HF e0 e1 e2 e3
  by_cases cs : sc = 0
  · subst cs
    have HAe : Hid (A = ⟨0, bu, gu, R1, R2, KS⟩) := by have := HA.out; simp only [ne_eq, not_true_eq_false, if_false] at this; exact this.symm
    have HT1 := HT.out rfl
    have HD1 := HD.out rfl
    clear HA HT HD
    go_wp2_with fail
    refine (HT1 _ K1.out.1 K1.out.2.1.c2 K1.out.2.1.c3).mono ?_
    rintro r0 w2 ⟨⟨a, n, k, rfl, ho⟩, hb2⟩
    have CD := HD1 w2 w1.heap.size a n k (K1.out.1.trans (hb2.mono K1.out.1.size)) (K1.out.2.1.keep hb2) ho hb2.size
    have K2 : Hid (Below w.heap.size w w2 ∧ S6 w2 (w.heap.size + 1) (.int .i64 0) (.int .i64 0) (.int .i64 0) (.slice none 0 0) (.slice none 0 0) (.slice none 0 0) ∧ w.heap.size + 2 ≤ w1.heap.size) := ⟨K1.out.1.trans (hb2.mono K1.out.1.size), K1.out.2.2.1.keep hb2, K1.out.2.2.2⟩
    clear K1 HT1 HD1 ho hb2
    go_wp2_with fail
    refine CD.mono ?_
    rintro r0 w3 ⟨⟨r, rfl, hQ⟩, hb3⟩
    have HQ : Hid (QSto w3 w1.heap.size w3.heap.size r R1 R2 KS) := hQ
    have HB : Hid (Below w.heap.size w w3 ∧ w.heap.size + 1 < w1.heap.size) := ⟨K2.out.1.trans (hb3.mono K2.out.1.size), by have := K2.out.2.2; omega⟩
    have hs6 := K2.out.2.1.keep hb3
    have z0 := hs6.c0
    have z1 := hs6.c1
    have z2 := hs6.c2
    have z3 := hs6.c3
    have z4 := hs6.c4
    have z5 := hs6.c5
    have zf0 := hs6.fr 0
    have zf1 := hs6.fr 1
    have zf2 := hs6.fr 2
    have zf3 := hs6.fr 3
    have zf4 := hs6.fr 4
    have zf5 := hs6.fr 5
    clear hs6 hQ hb3 K2 CD
    go_wp2_with fail
    refine bodyPost_ret (v := .agg #[.int .i64 0, .int .i64 bu, .int .i64 gu, .slice r.s.a1 r.s.n1 r.s.k1, .slice r.s.a2 r.s.n2 r.s.k2, .slice r.a3 r.n3 r.k3]) (by simp [results, Tryz.results43, go_sem, z0, z1, z2, z3, z4, z5]) rfl ?_
    refine ⟨PurAns.of ⟨r, rfl, QSto.lower (PurAns.off6 (A := ⟨0, bu, gu, R1, R2, KS⟩) HQ.out HB.out.2 _ _ _ _ _ _) (by have := HB.out.2; omega)⟩ HAe.out, ?_⟩
    exact (((((HB.out.1.setCell (by simp) _).setCell (by simp) _).setCell (by simp) _).setCell (by simp) _).setCell (by simp) _).setCell (by simp) _
  · have HAe : Hid (A = badQ sc) := by have := HA.out; rw [if_pos cs] at this; exact this.symm
    have z0 := K1.out.2.2.1.c0
    have z1 := K1.out.2.2.1.c1
    have z2 := K1.out.2.2.1.c2
    have z3 := K1.out.2.2.1.c3
    have z4 := K1.out.2.2.1.c4
    have z5 := K1.out.2.2.1.c5
    have zf0 := K1.out.2.2.1.fr 0
    have zf1 := K1.out.2.2.1.fr 1
    have zf2 := K1.out.2.2.1.fr 2
    have zf3 := K1.out.2.2.1.fr 3
    have zf4 := K1.out.2.2.1.fr 4
    have zf5 := K1.out.2.2.1.fr 5
    have HB : Hid (Below w.heap.size w w1) := K1.out.1
    clear HA K1 HT HD
    go_wp2_with fail
    refine bodyPost_ret (v := .agg #[.int .i64 sc, .int .i64 0, .int .i64 0, .slice none 0 0, .slice none 0 0, .slice none 0 0]) (by simp [results, Tryz.results43, go_sem, z0, z1, z2, z3, z4, z5]) rfl ?_
    exact ⟨(PurAns.bad _ _ _).of HAe.out, (((((HB.out.setCell (by simp) _).setCell (by simp) _).setCell (by simp) _).setCell (by simp) _).setCell (by simp) _).setCell (by simp) _⟩
set_option maxRecDepth 100000 in
set_option maxHeartbeats 16000000 in
theorem specPurgeKey_any (w : World) (bu gu : Int) (ta ka : Option Addr) (tc kc : Nat) (tl kl : List (Ent × EntR)) (key : ByteArray) (hard : Bool) (hl : tl.length ≤ 1048576) (hk : kl.length ≤ 1048576) (hto : ∀ q ∈ tl ++ kl, EntOk q.1) (hft : ∀ q ∈ tl ++ kl, EntFit q.1) (ht : EntsIn w ta tl) (hq : EntsIn w ka kl) :
    Calls Tryz.prog 38 #[.agg #[.int .i64 bu, .int .i64 gu, .slice ta tl.length tc, .slice ka kl.length kc], .string key, .bool hard] w fun e w' => PurAns (purA bu gu (tl.map Prod.fst) (kl.map Prod.fst) (isKey key) hard) w.heap.size e w' ∧ Below w.heap.size w w' := by
  have HF : Hid (∀ X, Below w.heap.size w X → Calls Tryz.prog 68 #[.agg #[.int .i64 bu, .int .i64 gu, .slice ta tl.length tc, .slice ka kl.length kc]] X fun r w' => r = .returned (.int .i64 (storeC bu gu (tl.map Prod.fst) (kl.map Prod.fst))) ∧ Below X.heap.size X w') := fun X hb => specSto_any X bu gu ta ka tc kc tl kl hl hk hto (ht.keep hb) (hq.keep hb)
  have HT : Hid (storeC bu gu (tl.map Prod.fst) (kl.map Prod.fst) = 0 → ∀ X, Below w.heap.size w X → X.cell? ⟨w.heap.size, 2, none⟩ = some (.slice ta tl.length tc) → X.cell? ⟨w.heap.size, 3, none⟩ = some (.slice ka kl.length kc) → Calls Tryz.prog 91 #[.pointer (some ⟨w.heap.size, 0, none⟩), .string key] X fun e w' => (∃ a n k, e = .returned (.slice a n k) ∧ RowT w' X.heap.size (.slice a n k) (keysP (isKey key) (tl.map Prod.fst ++ kl.map Prod.fst))) ∧ Below X.heap.size X w') := fun h0 X hX c2 c3 => by
    have hln : tl.length + kl.length ≤ 1000000 := by have := (storeC_zero h0).2.1; rw [List.length_map, List.length_map] at this; omega
    refine (l9Keys_at X w.heap.size key ta ka tc kc tl kl c2 c3 hln hft (ht.keep hX) (hq.keep hX) (storeC_nd h0)).mono ?_
    rintro e w' ⟨⟨v, rfl, ho⟩, hb⟩
    obtain ⟨va, vc, rfl, _⟩ := row_form ho
    exact ⟨⟨va, _, vc, rfl, ho⟩, hb⟩
  have HD : Hid (storeC bu gu (tl.map Prod.fst) (kl.map Prod.fst) = 0 → ∀ X kb a n k, Below w.heap.size w X → S4 X w.heap.size (.int .i64 bu) (.int .i64 gu) (.slice ta tl.length tc) (.slice ka kl.length kc) → RowT X kb (.slice a n k) (keysP (isKey key) (tl.map Prod.fst ++ kl.map Prod.fst)) → kb ≤ X.heap.size → Calls Tryz.prog 90 #[.pointer (some ⟨w.heap.size, 0, none⟩), .slice a n k, .bool hard] X fun e w' => (∃ r : QR, e = .returned (.agg #[.int .i64 0, .int .i64 bu, .int .i64 gu, .slice r.s.a1 r.s.n1 r.s.k1, .slice r.s.a2 r.s.n2 r.s.k2, .slice r.a3 r.n3 r.k3]) ∧ QSto w' kb w'.heap.size r (resE hard (isKey key) (tl.map Prod.fst)) (resE hard (isKey key) (kl.map Prod.fst)) (keysP (isKey key) (tl.map Prod.fst ++ kl.map Prod.fst))) ∧ Below X.heap.size X w') := fun h0 X kb a n k hX hs hr hkb => by
    have hln : tl.length + kl.length ≤ 40 := by have := (storeC_zero h0).2.1; rw [List.length_map, List.length_map] at this; omega
    have hkl : (keysP (isKey key) (tl.map Prod.fst ++ kl.map Prod.fst)).length ≤ 1000 := by
      have := keysP_len (isKey key) (tl.map Prod.fst ++ kl.map Prod.fst)
      rw [List.length_append, List.length_map, List.length_map] at this
      omega
    have := l9Do_at X w.heap.size kb bu gu ta ka tc kc tl kl a n k _ hard hs hln hft (ht.keep hX) (hq.keep hX) hkl hr hkb
    rw [(resE_keys (storeC_nd h0)).1, (resE_keys (storeC_nd h0)).2] at this
    exact this
  obtain ⟨W, hW⟩ : ∃ W, W = (w.alloc (.cells #[.int .i64 bu, .int .i64 gu, .slice ta tl.length tc, .slice ka kl.length kc] 28)).alloc (.cells #[.int .i64 0, .int .i64 0, .int .i64 0, .slice none 0 0, .slice none 0 0, .slice none 0 0] 67) := ⟨_, rfl⟩
  have HW : Hid (W = (w.alloc (.cells #[.int .i64 bu, .int .i64 gu, .slice ta tl.length tc, .slice ka kl.length kc] 28)).alloc (.cells #[.int .i64 0, .int .i64 0, .int .i64 0, .slice none 0 0, .slice none 0 0, .slice none 0 0] 67)) := hW
  have K0 : Hid (Below w.heap.size w W ∧ S4 W w.heap.size (.int .i64 bu) (.int .i64 gu) (.slice ta tl.length tc) (.slice ka kl.length kc) ∧ S6 W (w.heap.size + 1) (.int .i64 0) (.int .i64 0) (.int .i64 0) (.slice none 0 0) (.slice none 0 0) (.slice none 0 0) ∧ w.heap.size + 2 ≤ W.heap.size) := by
    rw [hW]
    refine ⟨((Below.refl _ _).alloc (Nat.le_refl _) _).alloc (by simp) _, (S4.new w _ _ _ _ _).keep ((Below.refl _ _).alloc (Nat.le_refl _) _), ?_, by simp⟩
    have := S6.new (w.alloc (.cells #[.int .i64 bu, .int .i64 gu, .slice ta tl.length tc, .slice ka kl.length kc] 28)) (.int .i64 0) (.int .i64 0) (.int .i64 0) (.slice none 0 0) (.slice none 0 0) (.slice none 0 0) 67
    simpa using this
  obtain ⟨A, hA⟩ : ∃ A, purA bu gu (tl.map Prod.fst) (kl.map Prod.fst) (isKey key) hard = A := ⟨_, rfl⟩
  rw [hA]
  unfold purA at hA
  have HA : Hid (_ = A) := hA
  have e0 := K0.out.2.1.c0
  have e1 := K0.out.2.1.c1
  have e2 := K0.out.2.1.c2
  have e3 := K0.out.2.1.c3
  rw [HW.out] at e0 e1 e2 e3
  clear hW hl hk hto hft ht hq hA
  generalize storeC bu gu (tl.map Prod.fst) (kl.map Prod.fst) = sc at *
  generalize resE hard (isKey key) (tl.map Prod.fst) = R1 at *
  generalize resE hard (isKey key) (kl.map Prod.fst) = R2 at *
  generalize keysP (isKey key) (tl.map Prod.fst ++ kl.map Prod.fst) = KS at *
  generalize tl.length = tn at *
  generalize kl.length = kn at *
  go_enter Tryz.func38, Tryz.ntmps38
  go_wp2_with fail
  rw [← HW.out]
  refine (HF.out _ K0.out.1).mono ?_
  rintro r0 w1 ⟨rfl, hb1⟩
  have K1 : Hid (Below w.heap.size w w1 ∧ S4 w1 w.heap.size (.int .i64 bu) (.int .i64 gu) (.slice ta tn tc) (.slice ka kn kc) ∧ S6 w1 (w.heap.size + 1) (.int .i64 0) (.int .i64 0) (.int .i64 0) (.slice none 0 0) (.slice none 0 0) (.slice none 0 0) ∧ w.heap.size + 2 ≤ w1.heap.size) := ⟨K0.out.1.trans (hb1.mono K0.out.1.size), K0.out.2.1.keep hb1, K0.out.2.2.1.keep hb1, by have := K0.out.2.2.2; have := hb1.size; omega⟩
  clear K0 HW hb1 HF e0 e1 e2 e3
  by_cases cs : sc = 0
  · subst cs
    have HAe : Hid (A = ⟨0, bu, gu, R1, R2, KS⟩) := by have := HA.out; simp only [ne_eq, not_true_eq_false, if_false] at this; exact this.symm
    have HT1 := HT.out rfl
    have HD1 := HD.out rfl
    clear HA HT HD
    go_wp2_with fail
    refine (HT1 _ K1.out.1 K1.out.2.1.c2 K1.out.2.1.c3).mono ?_
    rintro r0 w2 ⟨⟨a, n, k, rfl, ho⟩, hb2⟩
    have CD := HD1 w2 w1.heap.size a n k (K1.out.1.trans (hb2.mono K1.out.1.size)) (K1.out.2.1.keep hb2) ho hb2.size
    have K2 : Hid (Below w.heap.size w w2 ∧ S6 w2 (w.heap.size + 1) (.int .i64 0) (.int .i64 0) (.int .i64 0) (.slice none 0 0) (.slice none 0 0) (.slice none 0 0) ∧ w.heap.size + 2 ≤ w1.heap.size) := ⟨K1.out.1.trans (hb2.mono K1.out.1.size), K1.out.2.2.1.keep hb2, K1.out.2.2.2⟩
    clear K1 HT1 HD1 ho hb2
    go_wp2_with fail
    refine CD.mono ?_
    rintro r0 w3 ⟨⟨r, rfl, hQ⟩, hb3⟩
    have HQ : Hid (QSto w3 w1.heap.size w3.heap.size r R1 R2 KS) := hQ
    have HB : Hid (Below w.heap.size w w3 ∧ w.heap.size + 1 < w1.heap.size) := ⟨K2.out.1.trans (hb3.mono K2.out.1.size), by have := K2.out.2.2; omega⟩
    have hs6 := K2.out.2.1.keep hb3
    have z0 := hs6.c0
    have z1 := hs6.c1
    have z2 := hs6.c2
    have z3 := hs6.c3
    have z4 := hs6.c4
    have z5 := hs6.c5
    have zf0 := hs6.fr 0
    have zf1 := hs6.fr 1
    have zf2 := hs6.fr 2
    have zf3 := hs6.fr 3
    have zf4 := hs6.fr 4
    have zf5 := hs6.fr 5
    clear hs6 hQ hb3 K2 CD
    go_wp2_with fail
    refine bodyPost_ret (v := .agg #[.int .i64 0, .int .i64 bu, .int .i64 gu, .slice r.s.a1 r.s.n1 r.s.k1, .slice r.s.a2 r.s.n2 r.s.k2, .slice r.a3 r.n3 r.k3]) (by simp [results, Tryz.results38, go_sem, z0, z1, z2, z3, z4, z5]) rfl ?_
    refine ⟨PurAns.of ⟨r, rfl, QSto.lower (PurAns.off6 (A := ⟨0, bu, gu, R1, R2, KS⟩) HQ.out HB.out.2 _ _ _ _ _ _) (by have := HB.out.2; omega)⟩ HAe.out, ?_⟩
    exact (((((HB.out.1.setCell (by simp) _).setCell (by simp) _).setCell (by simp) _).setCell (by simp) _).setCell (by simp) _).setCell (by simp) _
  · have HAe : Hid (A = badQ sc) := by have := HA.out; rw [if_pos cs] at this; exact this.symm
    have z0 := K1.out.2.2.1.c0
    have z1 := K1.out.2.2.1.c1
    have z2 := K1.out.2.2.1.c2
    have z3 := K1.out.2.2.1.c3
    have z4 := K1.out.2.2.1.c4
    have z5 := K1.out.2.2.1.c5
    have zf0 := K1.out.2.2.1.fr 0
    have zf1 := K1.out.2.2.1.fr 1
    have zf2 := K1.out.2.2.1.fr 2
    have zf3 := K1.out.2.2.1.fr 3
    have zf4 := K1.out.2.2.1.fr 4
    have zf5 := K1.out.2.2.1.fr 5
    have HB : Hid (Below w.heap.size w w1) := K1.out.1
    clear HA K1 HT HD
    go_wp2_with fail
    refine bodyPost_ret (v := .agg #[.int .i64 sc, .int .i64 0, .int .i64 0, .slice none 0 0, .slice none 0 0, .slice none 0 0]) (by simp [results, Tryz.results38, go_sem, z0, z1, z2, z3, z4, z5]) rfl ?_
    exact ⟨(PurAns.bad _ _ _).of HAe.out, (((((HB.out.setCell (by simp) _).setCell (by simp) _).setCell (by simp) _).setCell (by simp) _).setCell (by simp) _).setCell (by simp) _⟩
set_option maxRecDepth 100000 in
set_option maxHeartbeats 16000000 in
theorem specPurgeAll_any (w : World) (bu gu : Int) (ta ka : Option Addr) (tc kc : Nat) (tl kl : List (Ent × EntR)) (hard : Bool) (hl : tl.length ≤ 1048576) (hk : kl.length ≤ 1048576) (hto : ∀ q ∈ tl ++ kl, EntOk q.1) (hft : ∀ q ∈ tl ++ kl, EntFit q.1) (ht : EntsIn w ta tl) (hq : EntsIn w ka kl) :
    Calls Tryz.prog 45 #[.agg #[.int .i64 bu, .int .i64 gu, .slice ta tl.length tc, .slice ka kl.length kc], .bool hard] w fun e w' => PurAns (purA bu gu (tl.map Prod.fst) (kl.map Prod.fst) anyP hard) w.heap.size e w' ∧ Below w.heap.size w w' := by
  have HF : Hid (∀ X, Below w.heap.size w X → Calls Tryz.prog 68 #[.agg #[.int .i64 bu, .int .i64 gu, .slice ta tl.length tc, .slice ka kl.length kc]] X fun r w' => r = .returned (.int .i64 (storeC bu gu (tl.map Prod.fst) (kl.map Prod.fst))) ∧ Below X.heap.size X w') := fun X hb => specSto_any X bu gu ta ka tc kc tl kl hl hk hto (ht.keep hb) (hq.keep hb)
  have HT : Hid (storeC bu gu (tl.map Prod.fst) (kl.map Prod.fst) = 0 → ∀ X, Below w.heap.size w X → X.cell? ⟨w.heap.size, 2, none⟩ = some (.slice ta tl.length tc) → X.cell? ⟨w.heap.size, 3, none⟩ = some (.slice ka kl.length kc) → Calls Tryz.prog 94 #[.pointer (some ⟨w.heap.size, 0, none⟩)] X fun e w' => (∃ a n k, e = .returned (.slice a n k) ∧ RowT w' X.heap.size (.slice a n k) (keysP anyP (tl.map Prod.fst ++ kl.map Prod.fst))) ∧ Below X.heap.size X w') := fun h0 X hX c2 c3 => by
    have hln : tl.length + kl.length ≤ 1000000 := by have := (storeC_zero h0).2.1; rw [List.length_map, List.length_map] at this; omega
    refine (l9All_at X w.heap.size ta ka tc kc tl kl c2 c3 hln (ht.keep hX) (hq.keep hX)).mono ?_
    rintro e w' ⟨⟨v, rfl, ho⟩, hb⟩
    obtain ⟨va, vc, rfl, _⟩ := row_form ho
    exact ⟨⟨va, _, vc, rfl, ho⟩, hb⟩
  have HD : Hid (storeC bu gu (tl.map Prod.fst) (kl.map Prod.fst) = 0 → ∀ X kb a n k, Below w.heap.size w X → S4 X w.heap.size (.int .i64 bu) (.int .i64 gu) (.slice ta tl.length tc) (.slice ka kl.length kc) → RowT X kb (.slice a n k) (keysP anyP (tl.map Prod.fst ++ kl.map Prod.fst)) → kb ≤ X.heap.size → Calls Tryz.prog 90 #[.pointer (some ⟨w.heap.size, 0, none⟩), .slice a n k, .bool hard] X fun e w' => (∃ r : QR, e = .returned (.agg #[.int .i64 0, .int .i64 bu, .int .i64 gu, .slice r.s.a1 r.s.n1 r.s.k1, .slice r.s.a2 r.s.n2 r.s.k2, .slice r.a3 r.n3 r.k3]) ∧ QSto w' kb w'.heap.size r (resE hard anyP (tl.map Prod.fst)) (resE hard anyP (kl.map Prod.fst)) (keysP anyP (tl.map Prod.fst ++ kl.map Prod.fst))) ∧ Below X.heap.size X w') := fun h0 X kb a n k hX hs hr hkb => by
    have hln : tl.length + kl.length ≤ 40 := by have := (storeC_zero h0).2.1; rw [List.length_map, List.length_map] at this; omega
    have hkl : (keysP anyP (tl.map Prod.fst ++ kl.map Prod.fst)).length ≤ 1000 := by
      have := keysP_len anyP (tl.map Prod.fst ++ kl.map Prod.fst)
      rw [List.length_append, List.length_map, List.length_map] at this
      omega
    have := l9Do_at X w.heap.size kb bu gu ta ka tc kc tl kl a n k _ hard hs hln hft (ht.keep hX) (hq.keep hX) hkl hr hkb
    rw [(resE_keys (storeC_nd h0)).1, (resE_keys (storeC_nd h0)).2] at this
    exact this
  obtain ⟨W, hW⟩ : ∃ W, W = (w.alloc (.cells #[.int .i64 bu, .int .i64 gu, .slice ta tl.length tc, .slice ka kl.length kc] 28)).alloc (.cells #[.int .i64 0, .int .i64 0, .int .i64 0, .slice none 0 0, .slice none 0 0, .slice none 0 0] 67) := ⟨_, rfl⟩
  have HW : Hid (W = (w.alloc (.cells #[.int .i64 bu, .int .i64 gu, .slice ta tl.length tc, .slice ka kl.length kc] 28)).alloc (.cells #[.int .i64 0, .int .i64 0, .int .i64 0, .slice none 0 0, .slice none 0 0, .slice none 0 0] 67)) := hW
  have K0 : Hid (Below w.heap.size w W ∧ S4 W w.heap.size (.int .i64 bu) (.int .i64 gu) (.slice ta tl.length tc) (.slice ka kl.length kc) ∧ S6 W (w.heap.size + 1) (.int .i64 0) (.int .i64 0) (.int .i64 0) (.slice none 0 0) (.slice none 0 0) (.slice none 0 0) ∧ w.heap.size + 2 ≤ W.heap.size) := by
    rw [hW]
    refine ⟨((Below.refl _ _).alloc (Nat.le_refl _) _).alloc (by simp) _, (S4.new w _ _ _ _ _).keep ((Below.refl _ _).alloc (Nat.le_refl _) _), ?_, by simp⟩
    have := S6.new (w.alloc (.cells #[.int .i64 bu, .int .i64 gu, .slice ta tl.length tc, .slice ka kl.length kc] 28)) (.int .i64 0) (.int .i64 0) (.int .i64 0) (.slice none 0 0) (.slice none 0 0) (.slice none 0 0) 67
    simpa using this
  obtain ⟨A, hA⟩ : ∃ A, purA bu gu (tl.map Prod.fst) (kl.map Prod.fst) anyP hard = A := ⟨_, rfl⟩
  rw [hA]
  unfold purA at hA
  have HA : Hid (_ = A) := hA
  have e0 := K0.out.2.1.c0
  have e1 := K0.out.2.1.c1
  have e2 := K0.out.2.1.c2
  have e3 := K0.out.2.1.c3
  rw [HW.out] at e0 e1 e2 e3
  clear hW hl hk hto hft ht hq hA
  generalize storeC bu gu (tl.map Prod.fst) (kl.map Prod.fst) = sc at *
  generalize resE hard anyP (tl.map Prod.fst) = R1 at *
  generalize resE hard anyP (kl.map Prod.fst) = R2 at *
  generalize keysP anyP (tl.map Prod.fst ++ kl.map Prod.fst) = KS at *
  generalize tl.length = tn at *
  generalize kl.length = kn at *
  go_enter Tryz.func45, Tryz.ntmps45
  go_wp2_with fail
  rw [← HW.out]
  refine (HF.out _ K0.out.1).mono ?_
  rintro r0 w1 ⟨rfl, hb1⟩
  have K1 : Hid (Below w.heap.size w w1 ∧ S4 w1 w.heap.size (.int .i64 bu) (.int .i64 gu) (.slice ta tn tc) (.slice ka kn kc) ∧ S6 w1 (w.heap.size + 1) (.int .i64 0) (.int .i64 0) (.int .i64 0) (.slice none 0 0) (.slice none 0 0) (.slice none 0 0) ∧ w.heap.size + 2 ≤ w1.heap.size) := ⟨K0.out.1.trans (hb1.mono K0.out.1.size), K0.out.2.1.keep hb1, K0.out.2.2.1.keep hb1, by have := K0.out.2.2.2; have := hb1.size; omega⟩
  clear K0 HW hb1 HF e0 e1 e2 e3
  by_cases cs : sc = 0
  · subst cs
    have HAe : Hid (A = ⟨0, bu, gu, R1, R2, KS⟩) := by have := HA.out; simp only [ne_eq, not_true_eq_false, if_false] at this; exact this.symm
    have HT1 := HT.out rfl
    have HD1 := HD.out rfl
    clear HA HT HD
    go_wp2_with fail
    refine (HT1 _ K1.out.1 K1.out.2.1.c2 K1.out.2.1.c3).mono ?_
    rintro r0 w2 ⟨⟨a, n, k, rfl, ho⟩, hb2⟩
    have CD := HD1 w2 w1.heap.size a n k (K1.out.1.trans (hb2.mono K1.out.1.size)) (K1.out.2.1.keep hb2) ho hb2.size
    have K2 : Hid (Below w.heap.size w w2 ∧ S6 w2 (w.heap.size + 1) (.int .i64 0) (.int .i64 0) (.int .i64 0) (.slice none 0 0) (.slice none 0 0) (.slice none 0 0) ∧ w.heap.size + 2 ≤ w1.heap.size) := ⟨K1.out.1.trans (hb2.mono K1.out.1.size), K1.out.2.2.1.keep hb2, K1.out.2.2.2⟩
    clear K1 HT1 HD1 ho hb2
    go_wp2_with fail
    refine CD.mono ?_
    rintro r0 w3 ⟨⟨r, rfl, hQ⟩, hb3⟩
    have HQ : Hid (QSto w3 w1.heap.size w3.heap.size r R1 R2 KS) := hQ
    have HB : Hid (Below w.heap.size w w3 ∧ w.heap.size + 1 < w1.heap.size) := ⟨K2.out.1.trans (hb3.mono K2.out.1.size), by have := K2.out.2.2; omega⟩
    have hs6 := K2.out.2.1.keep hb3
    have z0 := hs6.c0
    have z1 := hs6.c1
    have z2 := hs6.c2
    have z3 := hs6.c3
    have z4 := hs6.c4
    have z5 := hs6.c5
    have zf0 := hs6.fr 0
    have zf1 := hs6.fr 1
    have zf2 := hs6.fr 2
    have zf3 := hs6.fr 3
    have zf4 := hs6.fr 4
    have zf5 := hs6.fr 5
    clear hs6 hQ hb3 K2 CD
    go_wp2_with fail
    refine bodyPost_ret (v := .agg #[.int .i64 0, .int .i64 bu, .int .i64 gu, .slice r.s.a1 r.s.n1 r.s.k1, .slice r.s.a2 r.s.n2 r.s.k2, .slice r.a3 r.n3 r.k3]) (by simp [results, Tryz.results45, go_sem, z0, z1, z2, z3, z4, z5]) rfl ?_
    refine ⟨PurAns.of ⟨r, rfl, QSto.lower (PurAns.off6 (A := ⟨0, bu, gu, R1, R2, KS⟩) HQ.out HB.out.2 _ _ _ _ _ _) (by have := HB.out.2; omega)⟩ HAe.out, ?_⟩
    exact (((((HB.out.1.setCell (by simp) _).setCell (by simp) _).setCell (by simp) _).setCell (by simp) _).setCell (by simp) _).setCell (by simp) _
  · have HAe : Hid (A = badQ sc) := by have := HA.out; rw [if_pos cs] at this; exact this.symm
    have z0 := K1.out.2.2.1.c0
    have z1 := K1.out.2.2.1.c1
    have z2 := K1.out.2.2.1.c2
    have z3 := K1.out.2.2.1.c3
    have z4 := K1.out.2.2.1.c4
    have z5 := K1.out.2.2.1.c5
    have zf0 := K1.out.2.2.1.fr 0
    have zf1 := K1.out.2.2.1.fr 1
    have zf2 := K1.out.2.2.1.fr 2
    have zf3 := K1.out.2.2.1.fr 3
    have zf4 := K1.out.2.2.1.fr 4
    have zf5 := K1.out.2.2.1.fr 5
    have HB : Hid (Below w.heap.size w w1) := K1.out.1
    clear HA K1 HT HD
    go_wp2_with fail
    refine bodyPost_ret (v := .agg #[.int .i64 sc, .int .i64 0, .int .i64 0, .slice none 0 0, .slice none 0 0, .slice none 0 0]) (by simp [results, Tryz.results45, go_sem, z0, z1, z2, z3, z4, z5]) rfl ?_
    exact ⟨(PurAns.bad _ _ _).of HAe.out, (((((HB.out.setCell (by simp) _).setCell (by simp) _).setCell (by simp) _).setCell (by simp) _).setCell (by simp) _).setCell (by simp) _⟩
end Go.Proofs.YtaphofdcoddopaaGreatDoor
/-
  PurgeKey, PurgeTag, PurgeAll, by the program.
-/
namespace Go.Proofs.YtaphofdcoddopaaGreatDoor
open Go.ChangeShapes Go.WideShapes Go.ChangeAt Go.RowKit Go.Sort
set_option maxRecDepth 100000 in
set_option maxHeartbeats 16000000 in
theorem purge_any (w : World) (B0 g : Nat) (lb : Array Value) (p : Ent → Bool) (C : World → Prop) (bu gu : Int) (ta ka : Option Addr) (tc kc : Nat) (tl kl : List (Ent × EntR)) (hard : Bool) (PF : PredF B0 g lb p C) (hC : C w) (hB0 : B0 ≤ w.heap.size) (hset : SetIs w) (hl : tl.length ≤ 1048576) (hk : kl.length ≤ 1048576) (hto : ∀ q ∈ tl ++ kl, EntOk q.1) (hts : ∀ q ∈ tl ++ kl, ∀ t ∈ q.1.ts, t.size ≤ 1048576) (ht : EntsIn w ta tl) (hq : EntsIn w ka kl) :
    Calls Tryz.prog 92 #[.agg #[.int .i64 bu, .int .i64 gu, .slice ta tl.length tc, .slice ka kl.length kc], .bool hard, .func (.func g) #[] lb] w fun e w' => PurAns (purA bu gu (tl.map Prod.fst) (kl.map Prod.fst) p hard) w.heap.size e w' ∧ Below w.heap.size w w' := by
  have HF : Hid (∀ X, Below w.heap.size w X → Calls Tryz.prog 76 #[.agg #[.int .i64 bu, .int .i64 gu, .slice ta tl.length tc, .slice ka kl.length kc]] X fun r w' => r = .returned (.int .i64 (storeC bu gu (tl.map Prod.fst) (kl.map Prod.fst))) ∧ Below X.heap.size X w') := fun X hb => implSto_any X bu gu ta ka tc kc tl kl (hset.below hb) hl hk hto (ht.keep hb) (hq.keep hb)
  have HSO : Hid (∀ X, Below w.heap.size w X → Calls Tryz.prog 52 #[.agg #[.int .i64 bu, .int .i64 gu, .slice ta tl.length tc, .slice ka kl.length kc]] X fun e w' => (∃ a1 c1 d1 a2 c2 d2, e = .returned (.agg #[.slice a1 c1 d1, .slice a2 c2 d2]) ∧ TwoP w' X.heap.size (.slice a1 c1 d1) (.slice a2 c2 d2) (hdlsA ta tl) (hdlsA ka kl)) ∧ Below X.heap.size X w') := fun X hb => by
    refine (shelvesOf_any X bu gu ta ka tc kc tl kl hl hk (ht.keep hb) (hq.keep hb)).mono ?_
    rintro e w' ⟨⟨v1, v2, rfl, h2⟩, hb'⟩
    obtain ⟨a1, d1, rfl, _⟩ := h2.a.form
    obtain ⟨a2, d2, rfl, _⟩ := h2.b.form
    exact ⟨⟨a1, _, d1, a2, _, d2, rfl, h2⟩, hb'⟩
  have hOk : storeC bu gu (tl.map Prod.fst) (kl.map Prod.fst) = 0 → StoOk w ta ka tl kl := fun h0 => by
    have hx : ∀ h ∈ hdl2 ta ka tl kl, h.x ∈ (tl ++ kl).map Prod.fst := fun h hh => by rw [List.map_append, ← hdl2_x ta ka]; exact List.mem_map_of_mem hh
    refine ⟨ht, hq, by have := (storeC_zero h0).2.1; rw [List.length_map, List.length_map] at this; exact this, fun h hh => storeC_ent h0 h.x (by rw [← List.map_append]; exact hx h hh), fun h hh => ?_⟩
    obtain ⟨q, hq', e⟩ := List.mem_map.1 (hx h hh)
    rw [← e]
    exact hts q hq'
  have HKO : Hid (storeC bu gu (tl.map Prod.fst) (kl.map Prod.fst) = 0 → ∀ X v1 v2 base, Below w.heap.size w X → TwoP X base v1 v2 (hdlsA ta tl) (hdlsA ka kl) → Calls Tryz.prog 88 #[.agg #[v1, v2], .func (.func g) #[] lb] X fun e w' => (∃ a n k, e = .returned (.slice a n k) ∧ RowT w' X.heap.size (.slice a n k) (keysP p (tl.map Prod.fst ++ kl.map Prod.fst))) ∧ Below X.heap.size X w') := fun h0 X v1 v2 base hb h => by
    have ok := hOk h0
    have hn := ok.n
    refine (keysOf_any X v1 v2 base B0 g lb p C (hdlsA ta tl) (hdlsA ka kl) h PF (PF.keep _ _ hC (hb.mono hB0)) (by have := hb.size; omega) (by rw [hdlsA_len, hdlsA_len]; omega) (hdl2_there (ht.keep hb) (hq.keep hb)) (fun h hh => (entC_sizes (ok.z h hh)).2) (fun h hh => (entC_sizes (ok.z h hh)).1)).mono ?_
    rintro e w' ⟨⟨v, rfl, ho⟩, hb'⟩
    have ex : (hdlsA ta tl ++ hdlsA ka kl).map Hdl.x = tl.map Prod.fst ++ kl.map Prod.fst := hdl2_x ta ka tl kl
    rw [ex] at ho
    obtain ⟨va, vc, rfl, _⟩ := row_form ho
    exact ⟨⟨va, _, vc, rfl, ho⟩, hb'⟩
  have HTO : Hid (storeC bu gu (tl.map Prod.fst) (kl.map Prod.fst) = 0 → ∀ X, Below w.heap.size w X → Calls Tryz.prog 130 #[.agg #[.int .i64 bu, .int .i64 gu, .slice ta tl.length tc, .slice ka kl.length kc], .func (.func g) #[] lb] X fun e w' => (∃ a1 k1 n1 a2 k2 n2 m1 m2, e = .returned (.agg #[.int .i64 bu, .int .i64 gu, .slice a1 n1 k1, .slice a2 n2 k2]) ∧ m1.map Prod.fst = resE true p (tl.map Prod.fst) ∧ m2.map Prod.fst = resE true p (kl.map Prod.fst) ∧ StoLV w' X.heap.size (.slice a1 n1 k1) (.slice a2 n2 k2) m1 m2) ∧ Below X.heap.size X w') := fun h0 X hb => takenOut_any X B0 g lb p C bu gu ta ka tc kc tl kl ((hOk h0).keep hb) PF (PF.keep _ _ hC (hb.mono hB0)) (by have := hb.size; omega)
  have HTS : Hid (storeC bu gu (tl.map Prod.fst) (kl.map Prod.fst) = 0 → ∀ X, Below w.heap.size w X → Calls Tryz.prog 131 #[.agg #[.int .i64 bu, .int .i64 gu, .slice ta tl.length tc, .slice ka kl.length kc], .func (.func g) #[] lb] X fun e w' => (∃ a1 k1 n1 a2 k2 n2 m1 m2, e = .returned (.agg #[.int .i64 bu, .int .i64 gu, .slice a1 n1 k1, .slice a2 n2 k2]) ∧ m1.map Prod.fst = resE false p (tl.map Prod.fst) ∧ m2.map Prod.fst = resE false p (kl.map Prod.fst) ∧ StoLV w' X.heap.size (.slice a1 n1 k1) (.slice a2 n2 k2) m1 m2) ∧ Below X.heap.size X w') := fun h0 X hb => softened_any X B0 g lb p C bu gu ta ka tc kc tl kl ((hOk h0).keep hb) PF (PF.keep _ _ hC (hb.mono hB0)) (by have := hb.size; omega)
  obtain ⟨W, hW⟩ : ∃ W, W = (w.alloc (.cells #[.int .i64 bu, .int .i64 gu, .slice ta tl.length tc, .slice ka kl.length kc] 28)).alloc (.cells #[.int .i64 0, .int .i64 0, .int .i64 0, .slice none 0 0, .slice none 0 0, .slice none 0 0] 67) := ⟨_, rfl⟩
  have HW : Hid (W = (w.alloc (.cells #[.int .i64 bu, .int .i64 gu, .slice ta tl.length tc, .slice ka kl.length kc] 28)).alloc (.cells #[.int .i64 0, .int .i64 0, .int .i64 0, .slice none 0 0, .slice none 0 0, .slice none 0 0] 67)) := hW
  have K0 : Hid (Below w.heap.size w W ∧ S4 W w.heap.size (.int .i64 bu) (.int .i64 gu) (.slice ta tl.length tc) (.slice ka kl.length kc) ∧ S6 W (w.heap.size + 1) (.int .i64 0) (.int .i64 0) (.int .i64 0) (.slice none 0 0) (.slice none 0 0) (.slice none 0 0) ∧ w.heap.size + 2 ≤ W.heap.size) := by
    rw [hW]
    refine ⟨((Below.refl _ _).alloc (Nat.le_refl _) _).alloc (by simp) _, (S4.new w _ _ _ _ _).keep ((Below.refl _ _).alloc (Nat.le_refl _) _), ?_, by simp⟩
    have := S6.new (w.alloc (.cells #[.int .i64 bu, .int .i64 gu, .slice ta tl.length tc, .slice ka kl.length kc] 28)) (.int .i64 0) (.int .i64 0) (.int .i64 0) (.slice none 0 0) (.slice none 0 0) (.slice none 0 0) 67
    simpa using this
  obtain ⟨A, hA⟩ : ∃ A, purA bu gu (tl.map Prod.fst) (kl.map Prod.fst) p hard = A := ⟨_, rfl⟩
  rw [hA]
  unfold purA at hA
  have HA : Hid (_ = A) := hA
  have e0 := K0.out.2.1.c0
  have e1 := K0.out.2.1.c1
  have e2 := K0.out.2.1.c2
  have e3 := K0.out.2.1.c3
  rw [HW.out] at e0 e1 e2 e3
  clear hW hl hk hto hts ht hq hA hset PF hC hB0 hOk
  generalize storeC bu gu (tl.map Prod.fst) (kl.map Prod.fst) = sc at *
  generalize keysP p (tl.map Prod.fst ++ kl.map Prod.fst) = KS at *
  generalize tl.length = tn at *
  generalize kl.length = kn at *
  go_enter Tryz.func92, Tryz.ntmps92
  go_wp2_with fail
  rw [← HW.out]
  refine (HF.out _ K0.out.1).mono ?_
  rintro r0 w1 ⟨rfl, hb1⟩
  have K1 : Hid (Below w.heap.size w w1 ∧ S4 w1 w.heap.size (.int .i64 bu) (.int .i64 gu) (.slice ta tn tc) (.slice ka kn kc) ∧ S6 w1 (w.heap.size + 1) (.int .i64 0) (.int .i64 0) (.int .i64 0) (.slice none 0 0) (.slice none 0 0) (.slice none 0 0) ∧ w.heap.size + 2 ≤ w1.heap.size) := ⟨K0.out.1.trans (hb1.mono K0.out.1.size), K0.out.2.1.keep hb1, K0.out.2.2.1.keep hb1, by have := K0.out.2.2.2; have := hb1.size; omega⟩
  clear K0 HW hb1 HF e0 e1 e2 e3
  by_cases cs : sc = 0
  · subst cs
    have HAe : Hid (A = ⟨0, bu, gu, resE hard p (tl.map Prod.fst), resE hard p (kl.map Prod.fst), KS⟩) := by have := HA.out; simp only [ne_eq, not_true_eq_false, if_false] at this; exact this.symm
    have HK1 := HKO.out rfl
    have HT1 := HTO.out rfl
    have HS1 := HTS.out rfl
    clear HA HKO HTO HTS
    have e0 := K1.out.2.1.c0
    have e1 := K1.out.2.1.c1
    have e2 := K1.out.2.1.c2
    have e3 := K1.out.2.1.c3
    go_wp2_with fail
    refine (HSO.out _ K1.out.1).mono ?_
    rintro r0 w2 ⟨⟨a1, c1, d1, a2, c2, d2, rfl, tp⟩, hb2⟩
    have CK := HK1 w2 _ _ _ (K1.out.1.trans (hb2.mono K1.out.1.size)) tp
    have K2 : Hid (Below w.heap.size w w2 ∧ S4 w2 w.heap.size (.int .i64 bu) (.int .i64 gu) (.slice ta tn tc) (.slice ka kn kc) ∧ S6 w2 (w.heap.size + 1) (.int .i64 0) (.int .i64 0) (.int .i64 0) (.slice none 0 0) (.slice none 0 0) (.slice none 0 0) ∧ w.heap.size + 2 ≤ w2.heap.size) := ⟨K1.out.1.trans (hb2.mono K1.out.1.size), K1.out.2.1.keep hb2, K1.out.2.2.1.keep hb2, by have := K1.out.2.2.2; have := hb2.size; omega⟩
    clear e0 e1 e2 e3 hb2 tp K1 HSO HK1
    go_wp2_with fail
    refine CK.mono ?_
    rintro r0 w3 ⟨⟨a, n, k, rfl, ho⟩, hb3⟩
    have K3 : Hid (Below w.heap.size w w3 ∧ S4 w3 w.heap.size (.int .i64 bu) (.int .i64 gu) (.slice ta tn tc) (.slice ka kn kc) ∧ S6 w3 (w.heap.size + 1) (.int .i64 0) (.int .i64 0) (.int .i64 0) (.slice none 0 0) (.slice none 0 0) (.slice none 0 0) ∧ w.heap.size + 2 ≤ w2.heap.size ∧ w2.heap.size ≤ w3.heap.size) := ⟨K2.out.1.trans (hb3.mono K2.out.1.size), K2.out.2.1.keep hb3, K2.out.2.2.1.keep hb3, K2.out.2.2.2, hb3.size⟩
    have HO : Hid (RowT w3 w2.heap.size (.slice a n k) KS) := ho
    have e0 := K3.out.2.1.c0
    have e1 := K3.out.2.1.c1
    have e2 := K3.out.2.1.c2
    have e3 := K3.out.2.1.c3
    clear ho hb3 K2 CK
    have FIN : Hid (∀ X a1 k1 n1 a2 k2 n2 m1 m2, StoLV X w3.heap.size (.slice a1 n1 k1) (.slice a2 n2 k2) m1 m2 → Below w3.heap.size w3 X → m1.map Prod.fst = resE hard p (tl.map Prod.fst) → m2.map Prod.fst = resE hard p (kl.map Prod.fst) → S6 X (w.heap.size + 1) (.int .i64 0) (.int .i64 0) (.int .i64 0) (.slice none 0 0) (.slice none 0 0) (.slice none 0 0) ∧ (∀ u0 u1 u2 u3 u4 u5, PurAns A w.heap.size (.returned (.agg #[.int .i64 0, .int .i64 bu, .int .i64 gu, .slice a1 n1 k1, .slice a2 n2 k2, .slice a n k])) ((((((X.setCell ⟨w.heap.size + 1, 0, none⟩ u0).setCell ⟨w.heap.size + 1, 1, none⟩ u1).setCell ⟨w.heap.size + 1, 2, none⟩ u2).setCell ⟨w.heap.size + 1, 3, none⟩ u3).setCell ⟨w.heap.size + 1, 4, none⟩ u4).setCell ⟨w.heap.size + 1, 5, none⟩ u5) ∧ Below w.heap.size w ((((((X.setCell ⟨w.heap.size + 1, 0, none⟩ u0).setCell ⟨w.heap.size + 1, 1, none⟩ u1).setCell ⟨w.heap.size + 1, 2, none⟩ u2).setCell ⟨w.heap.size + 1, 3, none⟩ u3).setCell ⟨w.heap.size + 1, 4, none⟩ u4).setCell ⟨w.heap.size + 1, 5, none⟩ u5))) := fun X a1 k1 n1 a2 k2 n2 m1 m2 o hX x1 x2 => by
      obtain ⟨q1, _, q3, q4, q5⟩ := K3.out
      refine ⟨q3.keep hX, fun u0 u1 u2 u3 u4 u5 => ?_⟩
      have bX := q1.trans (hX.mono q1.size)
      have tl0 := HO.out.lv.1
      have hQ : QSto X w2.heap.size X.heap.size ⟨⟨a1, k1, n1, a2, k2, n2⟩, a, k, n⟩ (resE hard p (tl.map Prod.fst)) (resE hard p (kl.map Prod.fst)) KS := QSto.mk (r := ⟨⟨a1, k1, n1, a2, k2, n2⟩, a, k, n⟩) x1 x2 (o.lower q5) (tl0.below hX) (fun q e => ⟨HO.out.lv.2 q e, fun hm => by have := o.t.ge hm; have := tl0.block_lt q e; omega, fun hm => by have := o.k.ge hm; have := tl0.block_lt q e; omega⟩)
      refine ⟨PurAns.of ⟨⟨⟨a1, k1, n1, a2, k2, n2⟩, a, k, n⟩, rfl, QSto.lower (PurAns.off6 (A := ⟨0, bu, gu, resE hard p (tl.map Prod.fst), resE hard p (kl.map Prod.fst), KS⟩) hQ (b := w.heap.size + 1) (by omega) u0 u1 u2 u3 u4 u5) (by omega)⟩ HAe.out, ?_⟩
      exact (((((bX.setCell (by simp) _).setCell (by simp) _).setCell (by simp) _).setCell (by simp) _).setCell (by simp) _).setCell (by simp) _
    cases hard
    · go_wp2_with fail
      refine (HS1 w3 K3.out.1).mono ?_
      rintro r0 w4 ⟨⟨b1, k1, n1, b2, k2, n2, m1, m2, rfl, x1, x2, o⟩, hb4⟩
      obtain ⟨s6, fin⟩ := FIN.out w4 b1 k1 n1 b2 k2 n2 m1 m2 o hb4 x1 x2
      have HX : Hid _ := fin
      have z0 := s6.c0
      have z1 := s6.c1
      have z2 := s6.c2
      have z3 := s6.c3
      have z4 := s6.c4
      have z5 := s6.c5
      have zf0 := s6.fr 0
      have zf1 := s6.fr 1
      have zf2 := s6.fr 2
      have zf3 := s6.fr 3
      have zf4 := s6.fr 4
      have zf5 := s6.fr 5
      clear s6 fin o x1 x2 hb4 FIN HS1 HT1 K3 HO HAe e0 e1 e2 e3
      go_wp2_with fail
      refine bodyPost_ret (v := .agg #[.int .i64 0, .int .i64 bu, .int .i64 gu, .slice b1 n1 k1, .slice b2 n2 k2, .slice a n k]) (by simp [results, Tryz.results92, go_sem, z0, z1, z2, z3, z4, z5]) rfl ?_
      exact HX.out _ _ _ _ _ _
    · go_wp2_with fail
      refine (HT1 w3 K3.out.1).mono ?_
      rintro r0 w4 ⟨⟨b1, k1, n1, b2, k2, n2, m1, m2, rfl, x1, x2, o⟩, hb4⟩
      obtain ⟨s6, fin⟩ := FIN.out w4 b1 k1 n1 b2 k2 n2 m1 m2 o hb4 x1 x2
      have HX : Hid _ := fin
      have z0 := s6.c0
      have z1 := s6.c1
      have z2 := s6.c2
      have z3 := s6.c3
      have z4 := s6.c4
      have z5 := s6.c5
      have zf0 := s6.fr 0
      have zf1 := s6.fr 1
      have zf2 := s6.fr 2
      have zf3 := s6.fr 3
      have zf4 := s6.fr 4
      have zf5 := s6.fr 5
      clear s6 fin o x1 x2 hb4 FIN HS1 HT1 K3 HO HAe e0 e1 e2 e3
      go_wp2_with fail
      refine bodyPost_ret (v := .agg #[.int .i64 0, .int .i64 bu, .int .i64 gu, .slice b1 n1 k1, .slice b2 n2 k2, .slice a n k]) (by simp [results, Tryz.results92, go_sem, z0, z1, z2, z3, z4, z5]) rfl ?_
      exact HX.out _ _ _ _ _ _
  · have HAe : Hid (A = badQ sc) := by have := HA.out; rw [if_pos cs] at this; exact this.symm
    have s6 := K1.out.2.2.1
    have z0 := s6.c0
    have z1 := s6.c1
    have z2 := s6.c2
    have z3 := s6.c3
    have z4 := s6.c4
    have z5 := s6.c5
    have zf0 := s6.fr 0
    have zf1 := s6.fr 1
    have zf2 := s6.fr 2
    have zf3 := s6.fr 3
    have zf4 := s6.fr 4
    have zf5 := s6.fr 5
    have HB : Hid (Below w.heap.size w w1) := K1.out.1
    clear HA K1 HKO HTO HTS HSO s6
    go_wp2_with fail
    refine bodyPost_ret (v := .agg #[.int .i64 sc, .int .i64 0, .int .i64 0, .slice none 0 0, .slice none 0 0, .slice none 0 0]) (by simp [results, Tryz.results92, go_sem, z0, z1, z2, z3, z4, z5]) rfl ?_
    exact ⟨(PurAns.bad _ _ _).of HAe.out, (((((HB.out.setCell (by simp) _).setCell (by simp) _).setCell (by simp) _).setCell (by simp) _).setCell (by simp) _).setCell (by simp) _⟩
set_option maxRecDepth 100000 in
set_option maxHeartbeats 8000000 in
theorem implPurgeKey_any (w : World) (bu gu : Int) (ta ka : Option Addr) (tc kc : Nat) (tl kl : List (Ent × EntR)) (key : ByteArray) (hard : Bool) (hset : SetIs w) (hl : tl.length ≤ 1048576) (hk : kl.length ≤ 1048576) (hto : ∀ q ∈ tl ++ kl, EntOk q.1) (hts : ∀ q ∈ tl ++ kl, ∀ t ∈ q.1.ts, t.size ≤ 1048576) (ht : EntsIn w ta tl) (hq : EntsIn w ka kl) :
    Calls Tryz.prog 39 #[.agg #[.int .i64 bu, .int .i64 gu, .slice ta tl.length tc, .slice ka kl.length kc], .string key, .bool hard] w fun e w' => PurAns (purA bu gu (tl.map Prod.fst) (kl.map Prod.fst) (isKey key) hard) w.heap.size e w' ∧ Below w.heap.size w w' := by
  obtain ⟨A, hA⟩ : ∃ A, purA bu gu (tl.map Prod.fst) (kl.map Prod.fst) (isKey key) hard = A := ⟨_, rfl⟩
  rw [hA]
  obtain ⟨W, hW⟩ : ∃ W, W = (w.alloc (.cells #[.int .i64 bu, .int .i64 gu, .slice ta tl.length tc, .slice ka kl.length kc] 28)).alloc (.cells #[.int .i64 0, .int .i64 0, .int .i64 0, .slice none 0 0, .slice none 0 0, .slice none 0 0] 67) := ⟨_, rfl⟩
  have HW : Hid (W = (w.alloc (.cells #[.int .i64 bu, .int .i64 gu, .slice ta tl.length tc, .slice ka kl.length kc] 28)).alloc (.cells #[.int .i64 0, .int .i64 0, .int .i64 0, .slice none 0 0, .slice none 0 0, .slice none 0 0] 67)) := hW
  have K0 : Hid (Below w.heap.size w W ∧ S4 W w.heap.size (.int .i64 bu) (.int .i64 gu) (.slice ta tl.length tc) (.slice ka kl.length kc) ∧ S6 W (w.heap.size + 1) (.int .i64 0) (.int .i64 0) (.int .i64 0) (.slice none 0 0) (.slice none 0 0) (.slice none 0 0) ∧ w.heap.size + 2 ≤ W.heap.size) := by
    rw [hW]
    refine ⟨((Below.refl _ _).alloc (Nat.le_refl _) _).alloc (by simp) _, (S4.new w _ _ _ _ _).keep ((Below.refl _ _).alloc (Nat.le_refl _) _), ?_, by simp⟩
    have := S6.new (w.alloc (.cells #[.int .i64 bu, .int .i64 gu, .slice ta tl.length tc, .slice ka kl.length kc] 28)) (.int .i64 0) (.int .i64 0) (.int .i64 0) (.slice none 0 0) (.slice none 0 0) (.slice none 0 0) 67
    simpa using this
  have HP : Hid (∀ X, Below w.heap.size w X → ∀ K : Nat, K < X.heap.size → X.cell? ⟨K, 0, none⟩ = some (.string key) → Calls Tryz.prog 92 #[.agg #[.int .i64 bu, .int .i64 gu, .slice ta tl.length tc, .slice ka kl.length kc], .bool hard, .func (.func 132) #[] #[.pointer (some ⟨K, 0, none⟩)]] X fun e w' => (∃ r : QR, e = .returned (.agg #[.int .i64 A.c, .int .i64 A.bu, .int .i64 A.gu, .slice r.s.a1 r.s.n1 r.s.k1, .slice r.s.a2 r.s.n2 r.s.k2, .slice r.a3 r.n3 r.k3]) ∧ QSto w' X.heap.size w'.heap.size r A.t A.k A.g) ∧ Below X.heap.size X w') := fun X hX K hK hc => by
    rw [← hA]
    exact purge_any X X.heap.size _ _ (isKey key) _ bu gu ta ka tc kc tl kl hard (predKey X.heap.size K key hK) hc (Nat.le_refl _) (hset.below hX) hl hk hto hts (ht.keep hX) (hq.keep hX)
  have e0 := K0.out.2.1.c0
  have e1 := K0.out.2.1.c1
  have e2 := K0.out.2.1.c2
  have e3 := K0.out.2.1.c3
  rw [HW.out] at e0 e1 e2 e3
  clear hA hW hset hl hk hto hts ht hq
  obtain ⟨c, bo, go, T1, T2, G⟩ := A
  simp only at HP
  generalize tl.length = tn at *
  generalize kl.length = kn at *
  go_enter Tryz.func39, Tryz.ntmps39
  go_wp2_with fail
  rw [← HW.out]
  clear HW
  have HKW : Hid (∀ X, Below W.heap.size W X → Below w.heap.size w X ∧ S4 X w.heap.size (.int .i64 bu) (.int .i64 gu) (.slice ta tn tc) (.slice ka kn kc) ∧ S6 X (w.heap.size + 1) (.int .i64 0) (.int .i64 0) (.int .i64 0) (.slice none 0 0) (.slice none 0 0) (.slice none 0 0)) := fun X hX => ⟨K0.out.1.trans (hX.mono K0.out.1.size), K0.out.2.1.keep hX, K0.out.2.2.1.keep hX⟩
  have HKS : Hid (∀ X, Below W.heap.size W X → (X.cell? ⟨w.heap.size, 0, none⟩ = some (.int .i64 bu) ∧ X.cell? ⟨w.heap.size, 1, none⟩ = some (.int .i64 gu) ∧ X.cell? ⟨w.heap.size, 2, none⟩ = some (.slice ta tn tc) ∧ X.cell? ⟨w.heap.size, 3, none⟩ = some (.slice ka kn kc))) := fun X hX => ⟨(HKW.out X hX).2.1.c0, (HKW.out X hX).2.1.c1, (HKW.out X hX).2.1.c2, (HKW.out X hX).2.1.c3⟩
  have HKT : Hid (∀ X u0 u1 u2 u3 u4 u5, Below W.heap.size W X → (((((((X.setCell ⟨w.heap.size + 1, 0, none⟩ u0).setCell ⟨w.heap.size + 1, 1, none⟩ u1).setCell ⟨w.heap.size + 1, 2, none⟩ u2).setCell ⟨w.heap.size + 1, 3, none⟩ u3).setCell ⟨w.heap.size + 1, 4, none⟩ u4).setCell ⟨w.heap.size + 1, 5, none⟩ u5).cell? ⟨w.heap.size, 0, none⟩ = some (.int .i64 bu) ∧ ((((((X.setCell ⟨w.heap.size + 1, 0, none⟩ u0).setCell ⟨w.heap.size + 1, 1, none⟩ u1).setCell ⟨w.heap.size + 1, 2, none⟩ u2).setCell ⟨w.heap.size + 1, 3, none⟩ u3).setCell ⟨w.heap.size + 1, 4, none⟩ u4).setCell ⟨w.heap.size + 1, 5, none⟩ u5).cell? ⟨w.heap.size, 1, none⟩ = some (.int .i64 gu) ∧ ((((((X.setCell ⟨w.heap.size + 1, 0, none⟩ u0).setCell ⟨w.heap.size + 1, 1, none⟩ u1).setCell ⟨w.heap.size + 1, 2, none⟩ u2).setCell ⟨w.heap.size + 1, 3, none⟩ u3).setCell ⟨w.heap.size + 1, 4, none⟩ u4).setCell ⟨w.heap.size + 1, 5, none⟩ u5).cell? ⟨w.heap.size, 2, none⟩ = some (.slice ta tn tc) ∧ ((((((X.setCell ⟨w.heap.size + 1, 0, none⟩ u0).setCell ⟨w.heap.size + 1, 1, none⟩ u1).setCell ⟨w.heap.size + 1, 2, none⟩ u2).setCell ⟨w.heap.size + 1, 3, none⟩ u3).setCell ⟨w.heap.size + 1, 4, none⟩ u4).setCell ⟨w.heap.size + 1, 5, none⟩ u5).cell? ⟨w.heap.size, 3, none⟩ = some (.slice ka kn kc))) := fun X u0 u1 u2 u3 u4 u5 hX => by
    have s := ((((((HKW.out X hX).2.1.off (B := w.heap.size + 1) (i := 0) (x := u0) (by omega)).off (B := w.heap.size + 1) (i := 1) (x := u1) (by omega)).off (B := w.heap.size + 1) (i := 2) (x := u2) (by omega)).off (B := w.heap.size + 1) (i := 3) (x := u3) (by omega)).off (B := w.heap.size + 1) (i := 4) (x := u4) (by omega)).off (B := w.heap.size + 1) (i := 5) (x := u5) (by omega)
    exact ⟨s.c0, s.c1, s.c2, s.c3⟩
  have B0' : Hid (Below W.heap.size W W.drew) := (Below.refl _ _).drew
  go_region_held3 (fun X => X.cell? ⟨w.heap.size, 0, none⟩ = some (.int .i64 bu) ∧ X.cell? ⟨w.heap.size, 1, none⟩ = some (.int .i64 gu) ∧ X.cell? ⟨w.heap.size, 2, none⟩ = some (.slice ta tn tc) ∧ X.cell? ⟨w.heap.size, 3, none⟩ = some (.slice ka kn kc))
    (first | ((with_reducible refine HKS.out _ ?_); (with_reducible exact BB.out)) | ((with_reducible refine HKS.out _ ?_); (with_reducible exact BA.out)) | ((with_reducible refine HKS.out _ ?_); (with_reducible exact B0'.out)) | ((with_reducible refine HKT.out _ _ _ _ _ _ _ ?_); (with_reducible exact BB.out)))
    (first
    | (go_at_call 92; (with_reducible refine (HP.out wa ?_ _ ?_ ?_).mono ?_); (exact (HKW.out _ BA.out).1); (exact HC.out.2); (exact HC.out.1); rintro r0 w3 ⟨⟨r, rfl, hQ⟩, hb3⟩; have BB : Hid (Below W.heap.size W w3) := BA.out.trans (hb3.mono BA.out.size); have HQ : Hid (QSto w3 wa.heap.size w3.heap.size r T1 T2 G ∧ w.heap.size + 1 < wa.heap.size ∧ Below w.heap.size w w3) := ⟨hQ, by have := BA.out.size; have := K0.out.2.2.2; omega, (HKW.out _ BB.out).1⟩; have s6 := (HKW.out _ BB.out).2.2; have z0 := s6.c0; have z1 := s6.c1; have z2 := s6.c2; have z3 := s6.c3; have z4 := s6.c4; have z5 := s6.c5; have zf0 := s6.fr 0; have zf1 := s6.fr 1; have zf2 := s6.fr 2; have zf3 := s6.fr 3; have zf4 := s6.fr 4; have zf5 := s6.fr 5; clear s6 hQ hb3)
    | (go_at_call 93; (with_reducible refine (hasKey_any W.drew key).mono ?_); rintro r0 wa ⟨rfl, hc2, hl2, hb2⟩; have BA : Hid (Below W.heap.size W wa) := B0'.out.trans (hb2.mono B0'.out.size); have HC : Hid (wa.cell? ⟨W.drew.heap.size, 0, none⟩ = some (.string key) ∧ W.drew.heap.size < wa.heap.size) := ⟨hc2, hl2⟩; clear hc2 hl2 hb2))
  all_goals
    go_wp2_with fail
    refine bodyPost_ret (v := .agg #[.int .i64 c, .int .i64 bo, .int .i64 go, .slice r.s.a1 r.s.n1 r.s.k1, .slice r.s.a2 r.s.n2 r.s.k2, .slice r.a3 r.n3 r.k3]) (by simp [results, Tryz.results39, go_sem, z0, z1, z2, z3, z4, z5]) rfl ?_
    refine ⟨⟨r, rfl, QSto.lower (PurAns.off6 (A := ⟨c, bo, go, T1, T2, G⟩) HQ.out.1 HQ.out.2.1 _ _ _ _ _ _) (by have := HQ.out.2.1; omega)⟩, ?_⟩
    exact (((((HQ.out.2.2.setCell (by simp) _).setCell (by simp) _).setCell (by simp) _).setCell (by simp) _).setCell (by simp) _).setCell (by simp) _
set_option maxRecDepth 100000 in
set_option maxHeartbeats 8000000 in
theorem implPurgeTag_any (w : World) (bu gu : Int) (ta ka : Option Addr) (tc kc : Nat) (tl kl : List (Ent × EntR)) (tag : ByteArray) (hard : Bool) (hset : SetIs w) (hl : tl.length ≤ 1048576) (hk : kl.length ≤ 1048576) (hto : ∀ q ∈ tl ++ kl, EntOk q.1) (hts : ∀ q ∈ tl ++ kl, ∀ t ∈ q.1.ts, t.size ≤ 1048576) (ht : EntsIn w ta tl) (hq : EntsIn w ka kl) :
    Calls Tryz.prog 44 #[.agg #[.int .i64 bu, .int .i64 gu, .slice ta tl.length tc, .slice ka kl.length kc], .string tag, .bool hard] w fun e w' => PurAns (purA bu gu (tl.map Prod.fst) (kl.map Prod.fst) (tagP tag) hard) w.heap.size e w' ∧ Below w.heap.size w w' := by
  obtain ⟨A, hA⟩ : ∃ A, purA bu gu (tl.map Prod.fst) (kl.map Prod.fst) (tagP tag) hard = A := ⟨_, rfl⟩
  rw [hA]
  obtain ⟨W, hW⟩ : ∃ W, W = (w.alloc (.cells #[.int .i64 bu, .int .i64 gu, .slice ta tl.length tc, .slice ka kl.length kc] 28)).alloc (.cells #[.int .i64 0, .int .i64 0, .int .i64 0, .slice none 0 0, .slice none 0 0, .slice none 0 0] 67) := ⟨_, rfl⟩
  have HW : Hid (W = (w.alloc (.cells #[.int .i64 bu, .int .i64 gu, .slice ta tl.length tc, .slice ka kl.length kc] 28)).alloc (.cells #[.int .i64 0, .int .i64 0, .int .i64 0, .slice none 0 0, .slice none 0 0, .slice none 0 0] 67)) := hW
  have K0 : Hid (Below w.heap.size w W ∧ S4 W w.heap.size (.int .i64 bu) (.int .i64 gu) (.slice ta tl.length tc) (.slice ka kl.length kc) ∧ S6 W (w.heap.size + 1) (.int .i64 0) (.int .i64 0) (.int .i64 0) (.slice none 0 0) (.slice none 0 0) (.slice none 0 0) ∧ w.heap.size + 2 ≤ W.heap.size) := by
    rw [hW]
    refine ⟨((Below.refl _ _).alloc (Nat.le_refl _) _).alloc (by simp) _, (S4.new w _ _ _ _ _).keep ((Below.refl _ _).alloc (Nat.le_refl _) _), ?_, by simp⟩
    have := S6.new (w.alloc (.cells #[.int .i64 bu, .int .i64 gu, .slice ta tl.length tc, .slice ka kl.length kc] 28)) (.int .i64 0) (.int .i64 0) (.int .i64 0) (.slice none 0 0) (.slice none 0 0) (.slice none 0 0) 67
    simpa using this
  have HP : Hid (∀ X, Below w.heap.size w X → ∀ K : Nat, K < X.heap.size → X.cell? ⟨K, 0, none⟩ = some (.string tag) → Calls Tryz.prog 92 #[.agg #[.int .i64 bu, .int .i64 gu, .slice ta tl.length tc, .slice ka kl.length kc], .bool hard, .func (.func 127) #[] #[.pointer (some ⟨K, 0, none⟩)]] X fun e w' => (∃ r : QR, e = .returned (.agg #[.int .i64 A.c, .int .i64 A.bu, .int .i64 A.gu, .slice r.s.a1 r.s.n1 r.s.k1, .slice r.s.a2 r.s.n2 r.s.k2, .slice r.a3 r.n3 r.k3]) ∧ QSto w' X.heap.size w'.heap.size r A.t A.k A.g) ∧ Below X.heap.size X w') := fun X hX K hK hc => by
    rw [← hA]
    exact purge_any X X.heap.size _ _ (tagP tag) _ bu gu ta ka tc kc tl kl hard (predTag X.heap.size K tag hK) hc (Nat.le_refl _) (hset.below hX) hl hk hto hts (ht.keep hX) (hq.keep hX)
  have e0 := K0.out.2.1.c0
  have e1 := K0.out.2.1.c1
  have e2 := K0.out.2.1.c2
  have e3 := K0.out.2.1.c3
  rw [HW.out] at e0 e1 e2 e3
  clear hA hW hset hl hk hto hts ht hq
  obtain ⟨c, bo, go, T1, T2, G⟩ := A
  simp only at HP
  generalize tl.length = tn at *
  generalize kl.length = kn at *
  go_enter Tryz.func44, Tryz.ntmps44
  go_wp2_with fail
  rw [← HW.out]
  clear HW
  have HKW : Hid (∀ X, Below W.heap.size W X → Below w.heap.size w X ∧ S4 X w.heap.size (.int .i64 bu) (.int .i64 gu) (.slice ta tn tc) (.slice ka kn kc) ∧ S6 X (w.heap.size + 1) (.int .i64 0) (.int .i64 0) (.int .i64 0) (.slice none 0 0) (.slice none 0 0) (.slice none 0 0)) := fun X hX => ⟨K0.out.1.trans (hX.mono K0.out.1.size), K0.out.2.1.keep hX, K0.out.2.2.1.keep hX⟩
  have HKS : Hid (∀ X, Below W.heap.size W X → (X.cell? ⟨w.heap.size, 0, none⟩ = some (.int .i64 bu) ∧ X.cell? ⟨w.heap.size, 1, none⟩ = some (.int .i64 gu) ∧ X.cell? ⟨w.heap.size, 2, none⟩ = some (.slice ta tn tc) ∧ X.cell? ⟨w.heap.size, 3, none⟩ = some (.slice ka kn kc))) := fun X hX => ⟨(HKW.out X hX).2.1.c0, (HKW.out X hX).2.1.c1, (HKW.out X hX).2.1.c2, (HKW.out X hX).2.1.c3⟩
  have HKT : Hid (∀ X u0 u1 u2 u3 u4 u5, Below W.heap.size W X → (((((((X.setCell ⟨w.heap.size + 1, 0, none⟩ u0).setCell ⟨w.heap.size + 1, 1, none⟩ u1).setCell ⟨w.heap.size + 1, 2, none⟩ u2).setCell ⟨w.heap.size + 1, 3, none⟩ u3).setCell ⟨w.heap.size + 1, 4, none⟩ u4).setCell ⟨w.heap.size + 1, 5, none⟩ u5).cell? ⟨w.heap.size, 0, none⟩ = some (.int .i64 bu) ∧ ((((((X.setCell ⟨w.heap.size + 1, 0, none⟩ u0).setCell ⟨w.heap.size + 1, 1, none⟩ u1).setCell ⟨w.heap.size + 1, 2, none⟩ u2).setCell ⟨w.heap.size + 1, 3, none⟩ u3).setCell ⟨w.heap.size + 1, 4, none⟩ u4).setCell ⟨w.heap.size + 1, 5, none⟩ u5).cell? ⟨w.heap.size, 1, none⟩ = some (.int .i64 gu) ∧ ((((((X.setCell ⟨w.heap.size + 1, 0, none⟩ u0).setCell ⟨w.heap.size + 1, 1, none⟩ u1).setCell ⟨w.heap.size + 1, 2, none⟩ u2).setCell ⟨w.heap.size + 1, 3, none⟩ u3).setCell ⟨w.heap.size + 1, 4, none⟩ u4).setCell ⟨w.heap.size + 1, 5, none⟩ u5).cell? ⟨w.heap.size, 2, none⟩ = some (.slice ta tn tc) ∧ ((((((X.setCell ⟨w.heap.size + 1, 0, none⟩ u0).setCell ⟨w.heap.size + 1, 1, none⟩ u1).setCell ⟨w.heap.size + 1, 2, none⟩ u2).setCell ⟨w.heap.size + 1, 3, none⟩ u3).setCell ⟨w.heap.size + 1, 4, none⟩ u4).setCell ⟨w.heap.size + 1, 5, none⟩ u5).cell? ⟨w.heap.size, 3, none⟩ = some (.slice ka kn kc))) := fun X u0 u1 u2 u3 u4 u5 hX => by
    have s := ((((((HKW.out X hX).2.1.off (B := w.heap.size + 1) (i := 0) (x := u0) (by omega)).off (B := w.heap.size + 1) (i := 1) (x := u1) (by omega)).off (B := w.heap.size + 1) (i := 2) (x := u2) (by omega)).off (B := w.heap.size + 1) (i := 3) (x := u3) (by omega)).off (B := w.heap.size + 1) (i := 4) (x := u4) (by omega)).off (B := w.heap.size + 1) (i := 5) (x := u5) (by omega)
    exact ⟨s.c0, s.c1, s.c2, s.c3⟩
  have B0' : Hid (Below W.heap.size W W.drew) := (Below.refl _ _).drew
  go_region_held3 (fun X => X.cell? ⟨w.heap.size, 0, none⟩ = some (.int .i64 bu) ∧ X.cell? ⟨w.heap.size, 1, none⟩ = some (.int .i64 gu) ∧ X.cell? ⟨w.heap.size, 2, none⟩ = some (.slice ta tn tc) ∧ X.cell? ⟨w.heap.size, 3, none⟩ = some (.slice ka kn kc))
    (first | ((with_reducible refine HKS.out _ ?_); (with_reducible exact BB.out)) | ((with_reducible refine HKS.out _ ?_); (with_reducible exact BA.out)) | ((with_reducible refine HKS.out _ ?_); (with_reducible exact B0'.out)) | ((with_reducible refine HKT.out _ _ _ _ _ _ _ ?_); (with_reducible exact BB.out)))
    (first
    | (go_at_call 92; (with_reducible refine (HP.out wa ?_ _ ?_ ?_).mono ?_); (exact (HKW.out _ BA.out).1); (exact HC.out.2); (exact HC.out.1); rintro r0 w3 ⟨⟨r, rfl, hQ⟩, hb3⟩; have BB : Hid (Below W.heap.size W w3) := BA.out.trans (hb3.mono BA.out.size); have HQ : Hid (QSto w3 wa.heap.size w3.heap.size r T1 T2 G ∧ w.heap.size + 1 < wa.heap.size ∧ Below w.heap.size w w3) := ⟨hQ, by have := BA.out.size; have := K0.out.2.2.2; omega, (HKW.out _ BB.out).1⟩; have s6 := (HKW.out _ BB.out).2.2; have z0 := s6.c0; have z1 := s6.c1; have z2 := s6.c2; have z3 := s6.c3; have z4 := s6.c4; have z5 := s6.c5; have zf0 := s6.fr 0; have zf1 := s6.fr 1; have zf2 := s6.fr 2; have zf3 := s6.fr 3; have zf4 := s6.fr 4; have zf5 := s6.fr 5; clear s6 hQ hb3)
    | (go_at_call 89; (with_reducible refine (hasTag_any W.drew tag).mono ?_); rintro r0 wa ⟨rfl, hc2, hl2, hb2⟩; have BA : Hid (Below W.heap.size W wa) := B0'.out.trans (hb2.mono B0'.out.size); have HC : Hid (wa.cell? ⟨W.drew.heap.size, 0, none⟩ = some (.string tag) ∧ W.drew.heap.size < wa.heap.size) := ⟨hc2, hl2⟩; clear hc2 hl2 hb2))
  all_goals
    go_wp2_with fail
    refine bodyPost_ret (v := .agg #[.int .i64 c, .int .i64 bo, .int .i64 go, .slice r.s.a1 r.s.n1 r.s.k1, .slice r.s.a2 r.s.n2 r.s.k2, .slice r.a3 r.n3 r.k3]) (by simp [results, Tryz.results44, go_sem, z0, z1, z2, z3, z4, z5]) rfl ?_
    refine ⟨⟨r, rfl, QSto.lower (PurAns.off6 (A := ⟨c, bo, go, T1, T2, G⟩) HQ.out.1 HQ.out.2.1 _ _ _ _ _ _) (by have := HQ.out.2.1; omega)⟩, ?_⟩
    exact (((((HQ.out.2.2.setCell (by simp) _).setCell (by simp) _).setCell (by simp) _).setCell (by simp) _).setCell (by simp) _).setCell (by simp) _
set_option maxRecDepth 100000 in
set_option maxHeartbeats 8000000 in
theorem implPurgeAll_any (w : World) (bu gu : Int) (ta ka : Option Addr) (tc kc : Nat) (tl kl : List (Ent × EntR)) (hard : Bool) (hset : SetIs w) (hl : tl.length ≤ 1048576) (hk : kl.length ≤ 1048576) (hto : ∀ q ∈ tl ++ kl, EntOk q.1) (hts : ∀ q ∈ tl ++ kl, ∀ t ∈ q.1.ts, t.size ≤ 1048576) (ht : EntsIn w ta tl) (hq : EntsIn w ka kl) :
    Calls Tryz.prog 46 #[.agg #[.int .i64 bu, .int .i64 gu, .slice ta tl.length tc, .slice ka kl.length kc], .bool hard] w fun e w' => PurAns (purA bu gu (tl.map Prod.fst) (kl.map Prod.fst) anyP hard) w.heap.size e w' ∧ Below w.heap.size w w' := by
  obtain ⟨A, hA⟩ : ∃ A, purA bu gu (tl.map Prod.fst) (kl.map Prod.fst) anyP hard = A := ⟨_, rfl⟩
  rw [hA]
  obtain ⟨W, hW⟩ : ∃ W, W = (w.alloc (.cells #[.int .i64 bu, .int .i64 gu, .slice ta tl.length tc, .slice ka kl.length kc] 28)).alloc (.cells #[.int .i64 0, .int .i64 0, .int .i64 0, .slice none 0 0, .slice none 0 0, .slice none 0 0] 67) := ⟨_, rfl⟩
  have HW : Hid (W = (w.alloc (.cells #[.int .i64 bu, .int .i64 gu, .slice ta tl.length tc, .slice ka kl.length kc] 28)).alloc (.cells #[.int .i64 0, .int .i64 0, .int .i64 0, .slice none 0 0, .slice none 0 0, .slice none 0 0] 67)) := hW
  have K0 : Hid (Below w.heap.size w W ∧ S4 W w.heap.size (.int .i64 bu) (.int .i64 gu) (.slice ta tl.length tc) (.slice ka kl.length kc) ∧ S6 W (w.heap.size + 1) (.int .i64 0) (.int .i64 0) (.int .i64 0) (.slice none 0 0) (.slice none 0 0) (.slice none 0 0) ∧ w.heap.size + 2 ≤ W.heap.size) := by
    rw [hW]
    refine ⟨((Below.refl _ _).alloc (Nat.le_refl _) _).alloc (by simp) _, (S4.new w _ _ _ _ _).keep ((Below.refl _ _).alloc (Nat.le_refl _) _), ?_, by simp⟩
    have := S6.new (w.alloc (.cells #[.int .i64 bu, .int .i64 gu, .slice ta tl.length tc, .slice ka kl.length kc] 28)) (.int .i64 0) (.int .i64 0) (.int .i64 0) (.slice none 0 0) (.slice none 0 0) (.slice none 0 0) 67
    simpa using this
  have HP : Hid (∀ X, Below w.heap.size w X → Calls Tryz.prog 92 #[.agg #[.int .i64 bu, .int .i64 gu, .slice ta tl.length tc, .slice ka kl.length kc], .bool hard, .func (.func 95) #[] #[]] X fun e w' => (∃ r : QR, e = .returned (.agg #[.int .i64 A.c, .int .i64 A.bu, .int .i64 A.gu, .slice r.s.a1 r.s.n1 r.s.k1, .slice r.s.a2 r.s.n2 r.s.k2, .slice r.a3 r.n3 r.k3]) ∧ QSto w' X.heap.size w'.heap.size r A.t A.k A.g) ∧ Below X.heap.size X w') := fun X hX => by
    rw [← hA]
    exact purge_any X X.heap.size _ _ anyP _ bu gu ta ka tc kc tl kl hard (predAny X.heap.size) trivial (Nat.le_refl _) (hset.below hX) hl hk hto hts (ht.keep hX) (hq.keep hX)
  have e0 := K0.out.2.1.c0
  have e1 := K0.out.2.1.c1
  have e2 := K0.out.2.1.c2
  have e3 := K0.out.2.1.c3
  rw [HW.out] at e0 e1 e2 e3
  clear hA hW hset hl hk hto hts ht hq
  obtain ⟨c, bo, go, T1, T2, G⟩ := A
  simp only at HP
  generalize tl.length = tn at *
  generalize kl.length = kn at *
  go_enter Tryz.func46, Tryz.ntmps46
  go_wp2_with fail
  rw [← HW.out]
  obtain ⟨w2, hw2⟩ : ∃ w2, w2 = W := ⟨_, rfl⟩
  rw [← hw2] at K0 ⊢
  have CP := HP.out w2 K0.out.1
  have K1 : Hid (Below w.heap.size w w2 ∧ S6 w2 (w.heap.size + 1) (.int .i64 0) (.int .i64 0) (.int .i64 0) (.slice none 0 0) (.slice none 0 0) (.slice none 0 0) ∧ w.heap.size + 1 < w2.heap.size) := ⟨K0.out.1, K0.out.2.2.1, by have := K0.out.2.2.2; omega⟩
  clear K0 hw2
  refine CP.mono ?_
  rintro r0 w3 ⟨⟨r, rfl, hQ⟩, hb3⟩
  have s6 := K1.out.2.1.keep hb3
  have HQ : Hid (QSto w3 w2.heap.size w3.heap.size r T1 T2 G ∧ w.heap.size + 1 < w2.heap.size ∧ Below w.heap.size w w3) := ⟨hQ, K1.out.2.2, K1.out.1.trans (hb3.mono K1.out.1.size)⟩
  have z0 := s6.c0
  have z1 := s6.c1
  have z2 := s6.c2
  have z3 := s6.c3
  have z4 := s6.c4
  have z5 := s6.c5
  have zf0 := s6.fr 0
  have zf1 := s6.fr 1
  have zf2 := s6.fr 2
  have zf3 := s6.fr 3
  have zf4 := s6.fr 4
  have zf5 := s6.fr 5
  clear s6 hQ hb3 K1 CP HP
  go_wp2_with fail
  refine bodyPost_ret (v := .agg #[.int .i64 c, .int .i64 bo, .int .i64 go, .slice r.s.a1 r.s.n1 r.s.k1, .slice r.s.a2 r.s.n2 r.s.k2, .slice r.a3 r.n3 r.k3]) (by simp [results, Tryz.results46, go_sem, z0, z1, z2, z3, z4, z5]) rfl ?_
  refine ⟨⟨r, rfl, QSto.lower (PurAns.off6 (A := ⟨c, bo, go, T1, T2, G⟩) HQ.out.1 HQ.out.2.1 _ _ _ _ _ _) (by have := HQ.out.2.1; omega)⟩, ?_⟩
  exact (((((HQ.out.2.2.setCell (by simp) _).setCell (by simp) _).setCell (by simp) _).setCell (by simp) _).setCell (by simp) _).setCell (by simp) _
end Go.Proofs.YtaphofdcoddopaaGreatDoor
/-
  What purges answer fits what the laws take.
-/
namespace Go.Proofs.YtaphofdcoddopaaGreatDoor
open Go.ChangeShapes Go.WideShapes Go.ChangeAt Go.RowKit Go.Sort
theorem resE_fit {hard : Bool} {p : Ent → Bool} {L : List Ent} (h : FitE L) : FitE (resE hard p L) := by
  cases hard
  · refine ⟨by simpa [resE, turnE] using h.n, fun x hx => ?_⟩
    obtain ⟨y, hy, rfl⟩ := List.mem_map.1 hx
    have f := h.f y hy
    by_cases c : p y = true
    · simp only [c, if_true]; exact ⟨f.h, f.b, f.t⟩
    · simp only [c]; exact f
  · exact ⟨Nat.le_trans (List.length_filter_le _ _) h.n, fun x hx => h.f x (List.mem_filter.1 hx).1⟩
theorem fit_no : FitE [] := ⟨by simp, by simp⟩
theorem fitE_of {tl kl : List (Ent × EntR)} (h : StoFit tl kl) : FitE (tl.map Prod.fst) ∧ FitE (kl.map Prod.fst) :=
  ⟨⟨by simpa using h.tn, fun x hx => by obtain ⟨q, hq, rfl⟩ := List.mem_map.1 hx; exact h.tf q hq⟩, ⟨by simpa using h.kn, fun x hx => by obtain ⟨q, hq, rfl⟩ := List.mem_map.1 hx; exact h.kf q hq⟩⟩
theorem purA_fit {bu gu : Int} {tl kl : List (Ent × EntR)} {p : Ent → Bool} {hard : Bool} (h : StoFit tl kl) : FitE (purA bu gu (tl.map Prod.fst) (kl.map Prod.fst) p hard).t ∧ FitE (purA bu gu (tl.map Prod.fst) (kl.map Prod.fst) p hard).k ∧ FitG (purA bu gu (tl.map Prod.fst) (kl.map Prod.fst) p hard).g := by
  unfold purA
  split
  · exact ⟨fit_no, fit_no, ⟨by simp [badQ]⟩⟩
  · rename_i h1
    have h0 : storeC bu gu (tl.map Prod.fst) (kl.map Prod.fst) = 0 := by simpa using h1
    have := (storeC_zero h0).2.1
    have k := keysP_len p (tl.map Prod.fst ++ kl.map Prod.fst)
    rw [List.length_append] at k
    exact ⟨resE_fit (fitE_of h).1, resE_fit (fitE_of h).2, ⟨by show (keysP p (tl.map Prod.fst ++ kl.map Prod.fst)).length ≤ 1000; omega⟩⟩
end Go.Proofs.YtaphofdcoddopaaGreatDoor
