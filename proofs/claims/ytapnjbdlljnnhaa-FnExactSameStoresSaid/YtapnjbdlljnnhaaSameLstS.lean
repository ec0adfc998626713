/-
  Lists of entries and stores, held against each other.
-/
import Derived.Test.YtapnjbdlljnnhaaSameEntS
import Derived.Test.YtapnjbdlljnnhaaSameEntI
namespace Go.Proofs.Ytapnjbdlljnnhaa
open Go.ChangeShapes Go.WideShapes Go.ChangeAt Go.RowKit Go.Sort
def sameEs : List Ent → List Ent → Bool
  | [], [] => true
  | x :: l, y :: m => sameE x y && sameEs l m
  | _, _ => false
theorem sameEs_lens : ∀ (l m : List Ent), l.length ≠ m.length → sameEs l m = false
  | [], [], h => absurd rfl h
  | [], _ :: _, _ => rfl
  | _ :: _, [], _ => rfl
  | x :: l, y :: m, h => by
    rw [sameEs, sameEs_lens l m (by simpa using h), Bool.and_false]
theorem sameEs_drop {l m : List (Ent × EntR)} {k : Nat} {x y : Ent × EntR} (hx : l[k]? = some x) (hy : m[k]? = some y) : sameEs ((l.map Prod.fst).drop k) ((m.map Prod.fst).drop k) = (sameE x.1 y.1 && sameEs ((l.map Prod.fst).drop (k + 1)) ((m.map Prod.fst).drop (k + 1))) := by
  obtain ⟨hk, rfl⟩ := List.getElem?_eq_some_iff.1 hx
  obtain ⟨hj, rfl⟩ := List.getElem?_eq_some_iff.1 hy
  rw [List.drop_eq_getElem_cons (i := k) (by simpa using hk), List.drop_eq_getElem_cons (i := k) (by simpa using hj), sameEs]
  simp
set_option maxRecDepth 100000 in
set_option maxHeartbeats 8000000 in
theorem specLists_any (w : World) (a b : Option Addr) (ca cb : Nat) (l m : List (Ent × EntR)) (hl : l.length ≤ 1048576) (hf : ∀ q ∈ l, EntFit q.1) (h1 : EntsIn w a l) (h2 : EntsIn w b m) :
    Calls Try.prog 10 #[.slice a l.length ca, .slice b m.length cb] w fun e w' => e = .returned (.bool (sameEs (l.map Prod.fst) (m.map Prod.fst))) ∧ Below w.heap.size w w' := by
  have H1 : Hid (EntsIn w a l) := h1
  have H2 : Hid (EntsIn w b m) := h2
  have HFT : Hid (∀ q ∈ l, EntFit q.1) := hf
  clear h1 h2 hf
  by_cases hlen : l.length = m.length
  · have HM : Hid (m.length = l.length) := hlen.symm
    rw [← hlen]
    clear hlen
    obtain ⟨S, hS⟩ : ∃ S, sameEs (l.map Prod.fst) (m.map Prod.fst) = S := ⟨_, rfl⟩
    rw [hS]
    generalize hn : l.length = n at *
    have HN : Hid (l.length = n) := hn
    have HS0 : Hid (sameEs (l.map Prod.fst) (m.map Prod.fst) = S) := hS
    clear hn hS
    go_enter Try.func10, Try.ntmps10
    go_wp2_with fail
    go_loopw [5] (fun i wr => ∃ k : Nat, k ≤ n ∧ i = .int .i64 k ∧ S = sameEs ((l.map Prod.fst).drop k) ((m.map Prod.fst).drop k) ∧ Below w.heap.size w wr) (fun i _ => n - (intOf i).toNat)
    case atStart => exact ⟨0, Nat.zero_le _, rfl, HS0.out.symm, Below.refl _ _⟩
    case round =>
      obtain ⟨k, hk, rfl, hs, hb⟩ := hrel
      have HS : Hid (S = sameEs ((l.map Prod.fst).drop k) ((m.map Prod.fst).drop k)) := hs
      clear hs HS0
      by_cases hlt : k < n
      · obtain ⟨⟨x, r⟩, hx⟩ : ∃ r, l[k]? = some r := ⟨l[k]'(by have := HN.out; omega), List.getElem?_eq_getElem _⟩
        obtain ⟨⟨y, s⟩, hy⟩ : ∃ r, m[k]? = some r := ⟨m[k]'(by have := HM.out; have := HN.out; omega), List.getElem?_eq_getElem _⟩
        rcases H1.out with h | ⟨b1, o1, rfl, at1⟩
        · subst h; simp at hx
        rcases H2.out with h | ⟨b2, o2, rfl, at2⟩
        · subst h; simp at hy
        have P1 := (at1.keep hb).here hx
        have P2 := (at2.keep hb).here hy
        have I1 := (at1.keep hb).in hx
        have I2 := (at2.keep hb).in hy
        have ft := HFT.out _ (List.mem_of_getElem? hx)
        simp only at P1 P2 I1 I2 ft
        have HD : Hid (S = (sameE x y && sameEs ((l.map Prod.fst).drop (k + 1)) ((m.map Prod.fst).drop (k + 1)))) := by show _ = _; rw [HS.out, sameEs_drop hx hy]
        have g0 : (0 : Int) ≤ k := by omega
        have g : (k : Int) < n := by omega
        clear hx hy at1 at2 HS
        have cE : ∀ d os, Calls Try.prog 16 #[.pointer (some ⟨b1, o1 + k * 13, none⟩), .pointer (some ⟨b2, o2 + k * 13, none⟩)] (grow (redrawn wr d) os) fun e w'' => e = .returned (.bool (sameE x y)) ∧ ∃ p : Regrown, w'' = grow (redrawn wr p.d) p.os := fun d os => Calls.regrown_of (specSameE_at _ _ _ _ _ x y r s ft (P1.keep (below_regrown wr d os)) (P2.keep (below_regrown wr d os)) (I1.keep (below_regrown wr d os)) (I2.keep (below_regrown wr d os)))
        clear P1 P2 I1 I2 ft
        cases hsame : sameE x y
        · rw [hsame] at cE
          have HE : Hid (S = false) := by show _ = _; rw [HD.out, hsame, Bool.false_and]
          clear HD hsame
          go_wp2_with fail
          refine wp_region_quiet_below (by kernel_rfl) (by kernel_rfl) ?_
          repeat (go_big_quiet_step ((go_at_call 16; exact cE _ _)))
          refine wpQuiet_nil ?_
          intro w2 hw2
          have hbb : Below w.heap.size w w2 := by
            obtain ⟨⟨d, os⟩, rfl⟩ := hw2
            exact hb.trans ((below_regrown wr d os).mono hb.size)
          clear cE hw2 hb
          go_wp2_with fail
          go_ret
          exact ⟨ret_bool HE.out.symm, hbb⟩
        · rw [hsame] at cE
          have HE : Hid (S = sameEs ((l.map Prod.fst).drop (k + 1)) ((m.map Prod.fst).drop (k + 1))) := by show _ = _; rw [HD.out, hsame, Bool.true_and]
          clear HD hsame
          go_wp2_with fail
          refine wp_region_quiet_below (by kernel_rfl) (by kernel_rfl) ?_
          repeat (go_big_quiet_step ((go_at_call 16; exact cE _ _)))
          refine wpQuiet_nil ?_
          intro w2 hw2
          have hbb : Below w.heap.size w w2 := by
            obtain ⟨⟨d, os⟩, rfl⟩ := hw2
            exact hb.trans ((below_regrown wr d os).mono hb.size)
          clear cE hw2 hb
          go_wp2_with fail
          go_roundw
          case rel => exact ⟨k + 1, by omega, by go_num, HE.out, hbb⟩
          case measure => simp [intOf]; omega
      · have HE : Hid (S = true) := by
          show _ = _
          rw [HS.out, List.drop_of_length_le (by have := HN.out; simp; omega), List.drop_of_length_le (by have := HM.out; have := HN.out; simp; omega)]
          rfl
        clear HS
        go_wp2_with fail
        go_ret
        exact ⟨ret_bool HE.out.symm, hb⟩
  · have HE : Hid (sameEs (l.map Prod.fst) (m.map Prod.fst) = false) := sameEs_lens _ _ (by simpa using hlen)
    have g : ¬ (l.length : Int) = (m.length : Int) := by omega
    have g2 : ((l.length : Int) != (m.length : Int)) = true := by simpa using g
    clear H1 H2 HFT
    generalize l.length = n at *
    generalize m.length = n2 at *
    go_enter Try.func10, Try.ntmps10
    go_wp2_with fail
    go_ret
    exact ⟨ret_bool HE.out.symm, Below.refl _ _⟩
end Go.Proofs.Ytapnjbdlljnnhaa
