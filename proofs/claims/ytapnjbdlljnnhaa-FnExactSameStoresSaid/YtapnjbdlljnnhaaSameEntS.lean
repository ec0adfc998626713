/-
  Two entries, held against each other by the model.
-/
import Derived.Test.YtapnjbdlljnnhaaSameEnt0
namespace Go.Proofs.Ytapnjbdlljnnhaa
open Go.ChangeShapes Go.WideShapes Go.ChangeAt Go.RowKit Go.Sort
set_option maxRecDepth 100000 in
set_option maxHeartbeats 16000000 in
theorem specSameE_at (w : World) (B1 O1 B2 O2 : Nat) (x y : Ent) (r s : EntR) (hf : EntFit x) (p : EntHere w B1 O1 x r) (q : EntHere w B2 O2 y s) (hx : EntIn w x r) (hy : EntIn w y s) :
    Calls Try.prog 16 #[.pointer (some ⟨B1, O1, none⟩), .pointer (some ⟨B2, O2, none⟩)] w fun e w' => e = .returned (.bool (sameE x y)) ∧ Below w.heap.size w w' := by
  have cH : ∀ d os, Calls Try.prog 25 #[.slice r.ha x.hs.length r.hc, .slice s.ha y.hs.length s.hc] (grow (redrawn w d) os) fun e w'' => e = .returned (.bool (sameHs x.hs y.hs)) ∧ ∃ p : Regrown, w'' = grow (redrawn w p.d) p.os := fun d os => Calls.regrown_of (specSameH_any _ _ _ _ _ _ _ hf.h (hx.h.keep (below_regrown w d os)) (hy.h.keep (below_regrown w d os)))
  have cT : ∀ d os, Calls Try.prog 26 #[.slice r.ta x.ts.length r.tc, .slice s.ta y.ts.length s.tc] (grow (redrawn w d) os) fun e w'' => e = .returned (.bool (sameTs x.ts y.ts)) ∧ ∃ p : Regrown, w'' = grow (redrawn w p.d) p.os := fun d os => Calls.regrown_of (specTexts_any _ _ _ _ _ _ _ hf.t (hx.k.keep (below_regrown w d os)) (hy.k.keep (below_regrown w d os)))
  have bt1 : ∀ d os, (convert 37 9 (.slice r.ba x.bl.length r.bc)).run Try.prog (grow (redrawn w d) os) = .ok (.string ⟨x.bl.toArray⟩) (grow (redrawn w d) os) := fun d os => bytes_text _ (hx.b.keep (below_regrown w d os))
  have bt2 : ∀ d os, (convert 37 9 (.slice s.ba y.bl.length s.bc)).run Try.prog (grow (redrawn w d) os) = .ok (.string ⟨y.bl.toArray⟩) (grow (redrawn w d) os) := fun d os => bytes_text _ (hy.b.keep (below_regrown w d os))
  have em : ∀ w, (binOp .eql 39 (.agg #[.int .i64 x.t, .int .i64 x.g, .int .i64 x.l, .int .i64 x.s, .int .i64 x.e, .bool x.b1, .bool x.b2]) (.agg #[.int .i64 y.t, .int .i64 y.g, .int .i64 y.l, .int .i64 y.s, .int .i64 y.e, .bool y.b1, .bool y.b2])).run Try.prog w = .ok (.bool (sameM x.t x.g x.l x.s x.e x.b1 x.b2 y.t y.g y.l y.s y.e y.b1 y.b2)) w := fun w => eqlMeta _ _ _ _ _ _ _ _ _ _ _ _ _ _ w
  have hgd := guardMeta
  obtain ⟨Z, hZ⟩ : ∃ Z, sameE x y = Z := ⟨_, rfl⟩
  rw [hZ]
  unfold sameE at hZ
  have HZ : Hid (_ = Z) := hZ
  clear hZ
  generalize (⟨x.bl.toArray⟩ : ByteArray) = xb at *
  generalize (⟨y.bl.toArray⟩ : ByteArray) = yb at *
  generalize sameM x.t x.g x.l x.s x.e x.b1 x.b2 y.t y.g y.l y.s y.e y.b1 y.b2 = mb at *
  generalize sameHs x.hs y.hs = hb0 at *
  generalize sameTs x.ts y.ts = tb at *
  have a0 := cell_regrown p.1
  have a1 := cell_regrown p.2.1
  have a2 := cell_regrown p.2.2.1
  have a3 := cell_regrown p.2.2.2.1
  have a4 := cell_regrown p.2.2.2.2.1
  have a5 := cell_regrown p.2.2.2.2.2.1
  have a6 := cell_regrown p.2.2.2.2.2.2.1
  have a7 := cell_regrown p.2.2.2.2.2.2.2.1
  have a8 := cell_regrown p.2.2.2.2.2.2.2.2.1
  have a9 := cell_regrown p.2.2.2.2.2.2.2.2.2.1
  have a10 := cell_regrown p.2.2.2.2.2.2.2.2.2.2.1
  have a11 := cell_regrown p.2.2.2.2.2.2.2.2.2.2.2.1
  have a12 := cell_regrown p.2.2.2.2.2.2.2.2.2.2.2.2
  have b0 := cell_regrown q.1
  have b1 := cell_regrown q.2.1
  have b2 := cell_regrown q.2.2.1
  have b3 := cell_regrown q.2.2.2.1
  have b4 := cell_regrown q.2.2.2.2.1
  have b5 := cell_regrown q.2.2.2.2.2.1
  have b6 := cell_regrown q.2.2.2.2.2.2.1
  have b7 := cell_regrown q.2.2.2.2.2.2.2.1
  have b8 := cell_regrown q.2.2.2.2.2.2.2.2.1
  have b9 := cell_regrown q.2.2.2.2.2.2.2.2.2.1
  have b10 := cell_regrown q.2.2.2.2.2.2.2.2.2.2.1
  have b11 := cell_regrown q.2.2.2.2.2.2.2.2.2.2.2.1
  have b12 := cell_regrown q.2.2.2.2.2.2.2.2.2.2.2.2
  clear p q hx hy hf
  obtain ⟨kx, stx, hsx, blx, tx, gx, lx, swx, ex, px, qx, tsx, pnx⟩ := x
  obtain ⟨hax, hcx, bax, bcx, tax, tcx⟩ := r
  obtain ⟨ky, sty, hsy, bly, ty, gy, ly, swy, ey, py, qy, tsy, pny⟩ := y
  obtain ⟨hay, hcy, bay, bcy, tay, tcy⟩ := s
  simp only at cH cT bt1 bt2 em HZ a0 a1 a2 a3 a4 a5 a6 a7 a8 a9 a10 a11 a12 b0 b1 b2 b3 b4 b5 b6 b7 b8 b9 b10 b11 b12
  generalize hsx.length = hnx at *
  generalize blx.length = bnx at *
  generalize tsx.length = tnx at *
  generalize hsy.length = hny at *
  generalize bly.length = bny at *
  generalize tsy.length = tny at *
  rcases Decidable.em (kx.toList = ky.toList) with cK | cK
  rotate_left
  · have HR : Hid (false = Z) := by show false = Z; rw [← HZ.out]; simp [cK]
    clear HZ
    have cK1 : (kx.toList == ky.toList) = false := by simp [cK]
    go_enter Try.func16, Try.ntmps16
    go_wp2_with fail
    refine wp_region_quiet_below (by kernel_rfl) (by kernel_rfl) ?_
    simp only [List.append_eq, List.cons_append, List.nil_append]
    repeat (go_big_quiet_step (first | (go_at_call 25; exact cH _ _) | (go_at_call 26; exact cT _ _)))
    refine wpQuiet_nil ?_
    intro w2 hw2
    have hbb : Below w.heap.size w w2 := by
      obtain ⟨⟨d, os⟩, rfl⟩ := hw2
      exact below_regrown w d os
    clear hw2
    go_wp2_with fail
    go_ret
    exact ⟨ret_bool HR.out, hbb⟩
  have cK1 : (kx.toList == ky.toList) = true := by simp [cK]
  rcases Decidable.em (stx = sty) with cS | cS
  rotate_left
  · have HR : Hid (false = Z) := by show false = Z; rw [← HZ.out]; simp [cS]
    clear HZ
    have cS1 : (stx == sty) = false := by simp [cS]
    go_enter Try.func16, Try.ntmps16
    go_wp2_with fail
    refine wp_region_quiet_below (by kernel_rfl) (by kernel_rfl) ?_
    simp only [List.append_eq, List.cons_append, List.nil_append]
    repeat (go_big_quiet_step (first | (go_at_call 25; exact cH _ _) | (go_at_call 26; exact cT _ _)))
    refine wpQuiet_nil ?_
    intro w2 hw2
    have hbb : Below w.heap.size w w2 := by
      obtain ⟨⟨d, os⟩, rfl⟩ := hw2
      exact below_regrown w d os
    clear hw2
    go_wp2_with fail
    go_ret
    exact ⟨ret_bool HR.out, hbb⟩
  subst cS
  cases hb0
  · have HR : Hid (false = Z) := by show false = Z; rw [← HZ.out]; simp
    clear HZ
    go_enter Try.func16, Try.ntmps16
    go_wp2_with fail
    refine wp_region_quiet_below (by kernel_rfl) (by kernel_rfl) ?_
    simp only [List.append_eq, List.cons_append, List.nil_append]
    repeat (go_big_quiet_step (first | (go_at_call 25; exact cH _ _) | (go_at_call 26; exact cT _ _)))
    refine wpQuiet_nil ?_
    intro w2 hw2
    have hbb : Below w.heap.size w w2 := by
      obtain ⟨⟨d, os⟩, rfl⟩ := hw2
      exact below_regrown w d os
    clear hw2
    go_wp2_with fail
    go_ret
    exact ⟨ret_bool HR.out, hbb⟩
  rcases Decidable.em (xb.toList = yb.toList) with cB0 | cB0
  rotate_left
  · have HR : Hid (false = Z) := by show false = Z; rw [← HZ.out]; simp [cB0]
    clear HZ
    have cB : (xb.toList == yb.toList) = false := by simp [cB0]
    go_enter Try.func16, Try.ntmps16
    go_wp2_with fail
    refine wp_region_quiet_below (by kernel_rfl) (by kernel_rfl) ?_
    simp only [List.append_eq, List.cons_append, List.nil_append]
    repeat (go_big_quiet_step (first | (go_at_call 25; exact cH _ _) | (go_at_call 26; exact cT _ _)))
    refine wpQuiet_nil ?_
    intro w2 hw2
    have hbb : Below w.heap.size w w2 := by
      obtain ⟨⟨d, os⟩, rfl⟩ := hw2
      exact below_regrown w d os
    clear hw2
    go_wp2_with fail
    go_ret
    exact ⟨ret_bool HR.out, hbb⟩
  have cB : (xb.toList == yb.toList) = true := by simp [cB0]
  cases mb
  · have HR : Hid (false = Z) := by show false = Z; rw [← HZ.out]; simp
    clear HZ
    go_enter Try.func16, Try.ntmps16
    go_wp2_with fail
    refine wp_region_quiet_below (by kernel_rfl) (by kernel_rfl) ?_
    simp only [List.append_eq, List.cons_append, List.nil_append]
    repeat (go_big_quiet_step (first | (go_at_call 25; exact cH _ _) | (go_at_call 26; exact cT _ _)))
    refine wpQuiet_nil ?_
    intro w2 hw2
    have hbb : Below w.heap.size w w2 := by
      obtain ⟨⟨d, os⟩, rfl⟩ := hw2
      exact below_regrown w d os
    clear hw2
    go_wp2_with fail
    go_ret
    exact ⟨ret_bool HR.out, hbb⟩
  cases tb
  · have HR : Hid (false = Z) := by show false = Z; rw [← HZ.out]; simp
    clear HZ
    go_enter Try.func16, Try.ntmps16
    go_wp2_with fail
    refine wp_region_quiet_below (by kernel_rfl) (by kernel_rfl) ?_
    simp only [List.append_eq, List.cons_append, List.nil_append]
    repeat (go_big_quiet_step (first | (go_at_call 25; exact cH _ _) | (go_at_call 26; exact cT _ _)))
    refine wpQuiet_nil ?_
    intro w2 hw2
    have hbb : Below w.heap.size w w2 := by
      obtain ⟨⟨d, os⟩, rfl⟩ := hw2
      exact below_regrown w d os
    clear hw2
    go_wp2_with fail
    go_ret
    exact ⟨ret_bool HR.out, hbb⟩
  rcases Decidable.em (pnx = pny) with cP | cP
  rotate_left
  · have HR : Hid (false = Z) := by show false = Z; rw [← HZ.out]; simp [cP]
    clear HZ
    have cP1 : (pnx == pny) = false := by simp [cP]
    go_enter Try.func16, Try.ntmps16
    go_wp2_with fail
    refine wp_region_quiet_below (by kernel_rfl) (by kernel_rfl) ?_
    simp only [List.append_eq, List.cons_append, List.nil_append]
    repeat (go_big_quiet_step (first | (go_at_call 25; exact cH _ _) | (go_at_call 26; exact cT _ _)))
    refine wpQuiet_nil ?_
    intro w2 hw2
    have hbb : Below w.heap.size w w2 := by
      obtain ⟨⟨d, os⟩, rfl⟩ := hw2
      exact below_regrown w d os
    clear hw2
    go_wp2_with fail
    go_ret
    exact ⟨ret_bool HR.out, hbb⟩
  subst cP
  have HR : Hid (true = Z) := by show true = Z; rw [← HZ.out]; simp [cK, cB0]
  clear HZ
  go_enter Try.func16, Try.ntmps16
  go_wp2_with fail
  refine wp_region_quiet_below (by kernel_rfl) (by kernel_rfl) ?_
  simp only [List.append_eq, List.cons_append, List.nil_append]
  repeat (go_big_quiet_step (first | (go_at_call 25; exact cH _ _) | (go_at_call 26; exact cT _ _)))
  refine wpQuiet_nil ?_
  intro w2 hw2
  have hbb : Below w.heap.size w w2 := by
    obtain ⟨⟨d, os⟩, rfl⟩ := hw2
    exact below_regrown w d os
  clear hw2
  go_wp2_with fail
  go_ret
  exact ⟨ret_bool HR.out, hbb⟩
end Go.Proofs.Ytapnjbdlljnnhaa
