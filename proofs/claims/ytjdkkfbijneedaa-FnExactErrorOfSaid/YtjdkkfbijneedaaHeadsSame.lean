/-
  The laws' comparing of two lists of items that are alike.
-/
import Derived.Test.YtjdkkfbijneedaaHeadsTo
import Derived.Lib.QuietBelow
import Derived.Deep.RegionWith
import Derived.BigQuiet
namespace Go.Proofs.Ytjdkkfbijneedaa
open Go.ChangeShapes Go.WideShapes Go.ChangeAt Go.RowKit Go.Sort
set_option maxRecDepth 100000 in
set_option maxHeartbeats 2000000 in
theorem eqHeaderS_same (w : World) (b1 o1 b2 o2 c1 c2 : Nat) (l : List Hdr) (hl : l.length ≤ 1048576) (h1 : HeadsAt w b1 o1 l) (h2 : HeadsAt w b2 o2 l) :
    Calls Try.prog 16 #[.slice (some ⟨b1, o1, none⟩) l.length c1, .slice (some ⟨b2, o2, none⟩) l.length c2] w fun e w' => e = .returned (.bool true) ∧ Below w.heap.size w w' := by
  have H1 : Hid (HeadsAt w b1 o1 l) := h1
  have H2 : Hid (HeadsAt w b2 o2 l) := h2
  clear h1 h2
  generalize hn : l.length = n at *
  have HN : Hid (l.length = n) := hn
  clear hn
  go_enter Try.func16, Try.ntmps16
  go_wp2_with fail
  go_loopw [5] (fun i wr => ∃ k : Nat, k ≤ n ∧ i = .int .i64 k ∧ Below w.heap.size w wr) (fun i _ => n - (intOf i).toNat)
  case atStart => exact ⟨0, Nat.zero_le _, rfl, Below.refl _ _⟩
  case round =>
    obtain ⟨k, hk, rfl, hb⟩ := hrel
    by_cases hlt : k < n
    · obtain ⟨r, hr⟩ : ∃ r, l[k]? = some r := ⟨l[k]'(by have := HN.out; omega), List.getElem?_eq_getElem _⟩
      obtain ⟨p1, p3⟩ := (H1.out.keep hb) k r hr
      obtain ⟨q1, q3⟩ := (H2.out.keep hb) k r hr
      have x1 := cell_regrown p1
      have x3 := cell_regrown p3
      have y1 := cell_regrown q1
      have y3 := cell_regrown q3
      have cE : ∀ d os, Calls Try.prog 23 #[.agg #[.string r.name, .string r.value], .agg #[.string r.name, .string r.value]] (grow (redrawn wr d) os) fun e w'' => e = .returned (.bool true) ∧ ∃ p : Regrown, w'' = grow (redrawn wr p.d) p.os := fun d os => Calls.regrown_of (eqHeader_same r _)
      have g0 : (0 : Int) ≤ k := by omega
      have g : (k : Int) < n := by omega
      clear hr p1 p3 q1 q3
      generalize r.name = rn at *
      generalize r.value = rv at *
      go_wp2_with fail
      refine wp_region_quiet_below (by kernel_rfl) (by kernel_rfl) ?_
      repeat (go_big_quiet_step ((go_at_call 23; exact cE _ _)))
      refine wpQuiet_nil ?_
      intro w2 hw2
      have hbb : Below w.heap.size w w2 := by
        obtain ⟨⟨d, os⟩, rfl⟩ := hw2
        exact hb.trans ((below_regrown wr d os).mono hb.size)
      clear x1 x3 y1 y3 cE hw2 hb
      go_wp2_with fail
      go_roundw
      case rel => exact ⟨k + 1, by omega, by go_num, hbb⟩
      case measure => simp [intOf]; omega
    · go_wp2_with fail
      go_ret
      exact ⟨rfl, hb⟩
end Go.Proofs.Ytjdkkfbijneedaa
