/-
  An outcome that a closed breaker notes, by the program.
-/
import Derived.Test.YtmgidcigihpbeaaNoteC
import Derived.Deep.RegionHeld3
import Derived.Deep.CutRange
namespace Go.Proofs.Ytmgidcigihpbeaa
open Go.ChangeShapes Go.WideShapes Go.ChangeAt Go.RowKit Go.Sort
theorem own_snoc {w : World} {base : Nat} {v : Value} {l : List Mk} {n : Nat} {now : Int} {good : Bool} (hn : l.length = n) (h : w.ownsRow base 112 2 v (n + 1) (wMk l ++ [.int .i64 now, .bool good])) : OwnMk w base v (l ++ [(⟨now, good⟩ : Mk)]) := by
  unfold OwnMk
  rw [List.length_append, hn, show wMk (l ++ [(⟨now, good⟩ : Mk)]) = wMk l ++ [.int .i64 now, .bool good] by simp [wMk, cellMk]]
  exact h
theorem OwnMk.some {w : World} {base : Nat} {v : Value} {l : List Mk} (h : OwnMk w base v l) (hl : 0 < l.length) : ∃ g c, v = .slice (some ⟨g, 0, none⟩) l.length c ∧ l.length ≤ c := by
  obtain ⟨_, h1 | ⟨g, c, cur, rfl, _, _, hc, _⟩⟩ := h
  · omega
  · exact ⟨g, c, rfl, hc⟩
def MarkR (w : World) (base : Nat) (t : Int) (l : List Mk) (e : Ending) : Prop := ∃ a c, e = .returned (.iface 139 (.agg #[.int .i64 t, .slice a l.length c])) ∧ MkNew w base (.slice a l.length c) l
def WithR (w : World) (base : Nat) (t : Int) (nl : List Mk) (a1 a2 now : Int) (e : Ending) : Prop := (tooB nl a1 a2 = true ∧ e = .returned (.iface 134 (.agg #[.int .i64 now]))) ∨ (tooB nl a1 a2 = false ∧ MarkR w base t nl e)
set_option maxRecDepth 100000 in
set_option maxHeartbeats 16000000 in
theorem withMark_any (w : World) (t : Int) (a : Option Addr) (cap : Nat) (l : List Mk) (a0 a1 a2 a3 a4 now : Int) (good : Bool) (hl : l.length ≤ 60) (hi : MkIn w a l) (h0 : 0 ≤ a0 ∧ a0 ≤ 1000000) (h2 : 1 ≤ a2 ∧ a2 ≤ 1000) (hts : ∀ (i : Nat) x, l[i]? = some x → 0 ≤ x.tm ∧ x.tm ≤ 1000000000000000) :
    Calls Try.prog 92 #[.agg #[.int .i64 t, .slice a l.length cap], .agg #[.int .i64 a0, .int .i64 a1, .int .i64 a2, .int .i64 a3, .int .i64 a4], .agg #[.int .i64 now, .bool good]] w fun e w' => WithR w' w.heap.size t (noteL l a0 now good) a1 a2 now e ∧ Below w.heap.size w w' := by
  obtain ⟨W, hW⟩ : ∃ W, W = ((w.alloc (.cells #[.int .i64 t, .slice a l.length cap] 139)).alloc (.cells #[.int .i64 a0, .int .i64 a1, .int .i64 a2, .int .i64 a3, .int .i64 a4] 53)).alloc (.cells #[.int .i64 now, .bool good] 112) := ⟨_, rfl⟩
  have HW : Hid (W = ((w.alloc (.cells #[.int .i64 t, .slice a l.length cap] 139)).alloc (.cells #[.int .i64 a0, .int .i64 a1, .int .i64 a2, .int .i64 a3, .int .i64 a4] 53)).alloc (.cells #[.int .i64 now, .bool good] 112)) := hW
  have K0 : Hid ((Below w.heap.size w W ∧ IR W w.heap.size (.int .i64 t) (.slice a l.length cap) ∧ S5 W (w.heap.size + 1) (.int .i64 a0) (.int .i64 a1) (.int .i64 a2) (.int .i64 a3) (.int .i64 a4) ∧ IR W (w.heap.size + 2) (.int .i64 now) (.bool good)) ∧ W.heap.size = w.heap.size + 3) := by
    have h1 := IR.new w (.int .i64 t) (.slice a l.length cap) 139
    obtain ⟨W1, hW1⟩ : ∃ W1, W1 = w.alloc (.cells #[.int .i64 t, .slice a l.length cap] 139) := ⟨_, rfl⟩
    rw [← hW1] at h1 hW
    have e1 : W1.heap.size = w.heap.size + 1 := by rw [hW1]; simp
    have b1 : Below w.heap.size w W1 := by rw [hW1]; exact (Below.refl _ _).alloc (Nat.le_refl _) _
    have h2 := S5.new W1 (.int .i64 a0) (.int .i64 a1) (.int .i64 a2) (.int .i64 a3) (.int .i64 a4) 53
    obtain ⟨W2, hW2⟩ : ∃ W2, W2 = W1.alloc (.cells #[.int .i64 a0, .int .i64 a1, .int .i64 a2, .int .i64 a3, .int .i64 a4] 53) := ⟨_, rfl⟩
    rw [← hW2] at h2 hW
    have e2 : W2.heap.size = w.heap.size + 2 := by rw [hW2]; simp [e1]
    have b2 : Below W1.heap.size W1 W2 := by rw [hW2]; exact (Below.refl _ _).alloc (Nat.le_refl _) _
    have b3 : Below W2.heap.size W2 W := by rw [hW]; exact (Below.refl _ _).alloc (Nat.le_refl _) _
    have h3 := IR.new W2 (.int .i64 now) (.bool good) 112
    rw [← hW] at h3
    rw [e1] at h2
    rw [e2] at h3
    have b13 := b2.trans (b3.mono b2.size)
    exact ⟨⟨b1.trans (b13.mono b1.size), h1.keep b13, h2.keep b3, h3⟩, by rw [hW]; simp [e2]⟩
  obtain ⟨Lc, hLc⟩ : ∃ L, cntL a0 now l = L := ⟨_, rfl⟩
  have hcl : Lc.length ≤ 60 := by rw [← hLc]; have := cntL_le a0 now l; omega
  obtain ⟨cn, hcn⟩ : ∃ n, Lc.length = n := ⟨_, rfl⟩
  have HLC : Hid (Lc.length = cn) := hcn
  have hcn60 : cn ≤ 60 := by omega
  have HC : Hid (∀ X, Below W.heap.size W X → Calls Try.prog 96 #[.slice a l.length cap, .int .i64 a0, .int .i64 now] X fun e w' => CntR w' X.heap.size Lc e ∧ Below X.heap.size X w') := fun X hX => by rw [← hLc]; exact counting_any X a cap l a0 now hl ((hi.keep K0.out.1.1).keep hX) h0 hts
  have HTB : Hid (∀ X b c m, m.length ≤ 61 → MkIn X b m → Calls Try.prog 97 #[.slice b m.length c, .agg #[.int .i64 a0, .int .i64 a1, .int .i64 a2, .int .i64 a3, .int .i64 a4]] X fun e w' => e = .returned (.bool (tooB m a1 a2)) ∧ Below X.heap.size X w') := fun X b c m hm hmi => tooBad_any X b c m a0 a1 a2 a3 a4 hm hmi h2
  have HNL : Hid (noteL l a0 now good = if 60 < cn + 1 then (Lc ++ [(⟨now, good⟩ : Mk)]).drop 1 else Lc ++ [(⟨now, good⟩ : Mk)]) := by
    show _ = _
    unfold noteL
    rw [hLc, List.length_append, hcn]
    rfl
  clear hi hW hts h0 h2 hLc hcl hcn
  generalize noteL l a0 now good = nl at *
  generalize l.length = n at *
  have HKS : Hid (∀ X, Below W.heap.size W X → X.cell? ⟨w.heap.size, 1, none⟩ = some (.slice a n cap) ∧ X.cell? ⟨w.heap.size + 1, 0, none⟩ = some (.int .i64 a0) ∧ X.cell? ⟨w.heap.size + 2, 0, none⟩ = some (.int .i64 now) ∧ X.cell? ⟨w.heap.size + 2, 1, none⟩ = some (.bool good)) := fun X hb => ⟨(K0.out.1.2.1.keep hb).c1, (K0.out.1.2.2.1.keep hb).c0, (K0.out.1.2.2.2.keep hb).c0, (K0.out.1.2.2.2.keep hb).c1⟩
  obtain ⟨i0, hi0, hz0, hz1, hz2⟩ := info_parts infoMk
  go_enter Try.func92, Try.ntmps92
  go_upto_region 1 with fail
  rw [← HW.out]
  go_cut [7] from 8 to 17 (fun s7 wx => ∃ v2, s7 = v2 ∧ OwnMk wx W.heap.size v2 (Lc ++ [(⟨now, good⟩ : Mk)]) ∧ Below W.heap.size W wx)
  case first =>
    have B0 : Hid (Below W.heap.size W W.drew) := (Below.refl _ _).drew
    have B0A : Hid (Below W.heap.size W (W.alloc (.cells #[.int .i64 now, .bool good] 112)).drew) := ((Below.refl _ _).alloc (Nat.le_refl _) _).drew
    have B0B : Hid (Below W.heap.size W (W.drew.alloc (.cells #[.int .i64 now, .bool good] 112))) := (Below.refl _ _).drew.alloc (Nat.le_refl _) _
    go_region_held3 (fun X => X.cell? ⟨w.heap.size, 1, none⟩ = some (.slice a n cap) ∧ X.cell? ⟨w.heap.size + 1, 0, none⟩ = some (.int .i64 a0) ∧ X.cell? ⟨w.heap.size + 2, 0, none⟩ = some (.int .i64 now) ∧ X.cell? ⟨w.heap.size + 2, 1, none⟩ = some (.bool good))
      (first | ((with_reducible refine HKS.out _ ?_); (with_reducible exact FIN.out.2)) | ((with_reducible refine HKS.out _ ?_); (with_reducible exact BA.out)) | ((with_reducible refine HKS.out _ ?_); (with_reducible exact B0.out)) | ((with_reducible refine HKS.out _ ?_); (with_reducible exact B0A.out)) | ((with_reducible refine HKS.out _ ?_); (with_reducible exact B0B.out)) | ((with_reducible refine HKS.out _ ?_); (with_reducible exact BA.out.alloc BA.out.size _)))
      (first
      | (go_at_call 96; first
        | (have HBB : Hid (Below W.heap.size W W.drew) := B0.out; (with_reducible refine (HC.out W.drew HBB.out).mono ?_); rintro r0 ua ⟨⟨v, rfl, mo⟩, hb⟩; obtain ⟨va, vc, rfl, hvc, _⟩ := mo.in; rw [HLC.out] at hvc ⊢; have BA : Hid (Below W.heap.size W ua) := HBB.out.trans (hb.mono HBB.out.size); have OA : Hid (ua.ownsRow W.heap.size 112 2 (.slice va cn vc) cn (wMk Lc)) := (by have h := mo.lower HBB.out.size; unfold OwnMk at h; rw [HLC.out] at h; exact h); clear mo hb HBB hvc)
        | (have HBB : Hid (Below W.heap.size W (W.alloc (.cells #[.int .i64 now, .bool good] 112)).drew) := B0A.out; (with_reducible refine (HC.out (W.alloc (.cells #[.int .i64 now, .bool good] 112)).drew HBB.out).mono ?_); rintro r0 ua ⟨⟨v, rfl, mo⟩, hb⟩; obtain ⟨va, vc, rfl, hvc, _⟩ := mo.in; rw [HLC.out] at hvc ⊢; have BA : Hid (Below W.heap.size W ua) := HBB.out.trans (hb.mono HBB.out.size); have OA : Hid (ua.ownsRow W.heap.size 112 2 (.slice va cn vc) cn (wMk Lc)) := (by have h := mo.lower HBB.out.size; unfold OwnMk at h; rw [HLC.out] at h; exact h); have NB : Hid (IR ua W.heap.size (.int .i64 now) (.bool good)) := ((IR.new W _ _ _).keep ((Below.refl _ _).drew)).keep hb; clear mo hb HBB hvc)
        | (have HBB : Hid (Below W.heap.size W (W.drew.alloc (.cells #[.int .i64 now, .bool good] 112))) := B0B.out; (with_reducible refine (HC.out (W.drew.alloc (.cells #[.int .i64 now, .bool good] 112)) HBB.out).mono ?_); rintro r0 ua ⟨⟨v, rfl, mo⟩, hb⟩; obtain ⟨va, vc, rfl, hvc, _⟩ := mo.in; rw [HLC.out] at hvc ⊢; have BA : Hid (Below W.heap.size W ua) := HBB.out.trans (hb.mono HBB.out.size); have OA : Hid (ua.ownsRow W.heap.size 112 2 (.slice va cn vc) cn (wMk Lc)) := (by have h := mo.lower HBB.out.size; unfold OwnMk at h; rw [HLC.out] at h; exact h); have NB : Hid (IR ua W.heap.size (.int .i64 now) (.bool good)) := (IR.new W.drew _ _ _).keep hb; clear mo hb HBB hvc))
      | (have NBx := NB.out; have BX : Hid (Below W.heap.size W ua) := BA.out; refine step_append_in ua (by rfl) _ _ 49 112 (by rfl) i0 _ 2 16 Try.underlying49 hi0 hz0 hz1 hz2 rfl (by omega) W.heap.size _ cn (wMk Lc) (by rfl) OA.out (some ⟨W.heap.size, 0, none⟩) 1 1 [.int .i64 now, .bool good] (by rfl) rfl (.inr ⟨_, rfl, fun j u hj => by match j, hj with | 0, hj => (simp at hj; subst hj; simp [Addr.add]; exact NBx.c0) | 1, hj => (simp at hj; subst hj; simp [Addr.add]; exact NBx.c1)⟩) (fun u hu => by simp at hu; rcases hu with rfl | rfl <;> rfl) (by unfold maxLen; omega) (by omega) BA.out.size ?_; intro v2 w2 h1 h2 _; have FIN : Hid (OwnMk w2 W.heap.size v2 (Lc ++ [(⟨now, good⟩ : Mk)]) ∧ Below W.heap.size W w2) := ⟨own_snoc HLC.out h1, BX.out.trans h2⟩; clear h1 h2)
      | (have BX : Hid (Below W.heap.size W (ua.alloc (.cells #[.int .i64 now, .bool good] 112))) := BA.out.alloc BA.out.size _; have OX : Hid ((ua.alloc (.cells #[.int .i64 now, .bool good] 112)).ownsRow W.heap.size 112 2 (.slice va cn vc) cn (wMk Lc)) := row_below OA.out ((Below.refl _ _).alloc (Nat.le_refl _) _); refine step_append_in (ua.alloc (.cells #[.int .i64 now, .bool good] 112)) (by rfl) _ _ 49 112 (by rfl) i0 _ 2 16 Try.underlying49 hi0 hz0 hz1 hz2 rfl (by omega) W.heap.size _ cn (wMk Lc) (by rfl) OX.out (some ⟨ua.heap.size, 0, none⟩) 1 1 [.int .i64 now, .bool good] (by rfl) rfl (.inr ⟨_, rfl, fun j u hj => by match j, hj with | 0, hj => (simp at hj; subst hj; simp [Addr.add]) | 1, hj => (simp at hj; subst hj; simp [Addr.add])⟩) (fun u hu => by simp at hu; rcases hu with rfl | rfl <;> rfl) (by unfold maxLen; omega) (by omega) BX.out.size ?_; intro v2 w2 h1 h2 _; have FIN : Hid (OwnMk w2 W.heap.size v2 (Lc ++ [(⟨now, good⟩ : Mk)]) ∧ Below W.heap.size W w2) := ⟨own_snoc HLC.out h1, BX.out.trans h2⟩; clear h1 h2))
    all_goals (go_wp2_with fail; go_meet; exact ⟨_, rfl, FIN.out.1, FIN.out.2⟩)
  case rest =>
  obtain ⟨v2, rfl, ho, hbx⟩ := hcut
  have hlen : (Lc ++ [(⟨now, good⟩ : Mk)]).length = cn + 1 := by rw [List.length_append, HLC.out]; rfl
  have hnew := ho.new
  obtain ⟨g, vc, rfl, hvc⟩ := ho.some (by omega)
  rw [hlen] at hnew hvc ⊢
  have HNW : Hid (MkNew wc W.heap.size (.slice (some ⟨g, 0, none⟩) (cn + 1) vc) (Lc ++ [(⟨now, good⟩ : Mk)])) := hnew
  have HK : Hid ((Below w.heap.size w wc ∧ IR wc w.heap.size (.int .i64 t) (.slice a n cap) ∧ S5 wc (w.heap.size + 1) (.int .i64 a0) (.int .i64 a1) (.int .i64 a2) (.int .i64 a3) (.int .i64 a4) ∧ IR wc (w.heap.size + 2) (.int .i64 now) (.bool good)) ∧ w.heap.size + 3 ≤ W.heap.size) := ⟨⟨K0.out.1.1.trans (hbx.mono K0.out.1.1.size), K0.out.1.2.1.keep hbx, K0.out.1.2.2.1.keep hbx, K0.out.1.2.2.2.keep hbx⟩, Nat.le_of_eq K0.out.2.symm⟩
  clear ho hbx hnew K0 HW HC HKS
  generalize wc = V at *
  have HML : Hid ((Lc ++ [(⟨now, good⟩ : Mk)]).length = cn + 1) := hlen
  clear hlen
  obtain ⟨d0, d1, d2, d3, d4, df, _⟩ := HK.out.1.2.2.1
  by_cases hbig : 60 < cn + 1
  · have ecn : cn = 60 := by omega
    subst ecn
    have HNE : Hid (nl = (Lc ++ [(⟨now, good⟩ : Mk)]).drop 1) := by show _ = _; rw [HNL.out, if_pos hbig]
    have HND : Hid (MkNew V W.heap.size (.slice (some ⟨g, 2, none⟩) (60) (vc - 1)) nl) := by rw [HNE.out]; exact HNW.out.drop1 HML.out
    have HLN : Hid (nl.length = 60) := by show _ = _; rw [HNE.out, List.length_drop, HML.out]
    clear HNL HNW HNE hbig
    have hv1 : (61 : Int) ≤ vc := by omega
    have CT : Hid (Calls Try.prog 97 #[.slice (some ⟨g, 2, none⟩) (60) (vc - 1), .agg #[.int .i64 a0, .int .i64 a1, .int .i64 a2, .int .i64 a3, .int .i64 a4]] V fun e w' => e = .returned (.bool (tooB nl a1 a2)) ∧ Below V.heap.size V w') := by
      have := HTB.out V (some ⟨g, 2, none⟩) (vc - 1) nl (by rw [HLN.out]; omega) (by obtain ⟨x, y, e, hin⟩ := HND.out.in; simp only [Value.slice.injEq] at e; rw [e.1]; exact hin)
      rw [HLN.out] at this
      exact this
    clear HTB
    go_wp2_with fail
    refine CT.out.mono ?_
    rintro e w5 ⟨rfl, hb5⟩
    have HK5 : Hid ((Below w.heap.size w w5 ∧ IR w5 w.heap.size (.int .i64 t) (.slice a n cap) ∧ S5 w5 (w.heap.size + 1) (.int .i64 a0) (.int .i64 a1) (.int .i64 a2) (.int .i64 a3) (.int .i64 a4) ∧ IR w5 (w.heap.size + 2) (.int .i64 now) (.bool good)) ∧ MkNew w5 w.heap.size (.slice (some ⟨g, 2, none⟩) (60) (vc - 1)) nl) := ⟨⟨HK.out.1.1.trans (hb5.mono HK.out.1.1.size), HK.out.1.2.1.keep hb5, HK.out.1.2.2.1.keep hb5, HK.out.1.2.2.2.keep hb5⟩, (HND.out.keep hb5).lower (by have := HK.out.2; omega)⟩
    clear hb5 HK HND CT d0 d1 d2 d3 d4 df
    obtain ⟨k0, k1, kf, _⟩ := HK5.out.1.2.1
    obtain ⟨j0, j1, jf, _⟩ := HK5.out.1.2.2.2
    cases htb : tooB nl a1 a2
    · have HB0 : Hid (tooB nl a1 a2 = false) := htb
      clear htb
      go_wp2_with fail
      go_ret
      exact ⟨.inr ⟨HB0.out, some ⟨g, 2, none⟩, (vc - 1), by rw [HLN.out]; rfl, by rw [HLN.out]; exact HK5.out.2⟩, HK5.out.1.1⟩
    · have HB0 : Hid (tooB nl a1 a2 = true) := htb
      clear htb
      go_wp2_with fail
      go_ret
      exact ⟨.inl ⟨HB0.out, rfl⟩, HK5.out.1.1⟩
  · have HNE : Hid (nl = Lc ++ [(⟨now, good⟩ : Mk)]) := by show _ = _; rw [HNL.out, if_neg hbig]
    have HND : Hid (MkNew V W.heap.size (.slice (some ⟨g, 0, none⟩) (cn + 1) vc) nl) := by rw [HNE.out]; exact HNW.out
    have HLN : Hid (nl.length = cn + 1) := by show _ = _; rw [HNE.out, HML.out]
    have hs1 : ¬ (60 : Int) < ((cn + 1 : Nat) : Int) := by omega
    clear HNL HNW HNE
    have CT : Hid (Calls Try.prog 97 #[.slice (some ⟨g, 0, none⟩) (cn + 1) vc, .agg #[.int .i64 a0, .int .i64 a1, .int .i64 a2, .int .i64 a3, .int .i64 a4]] V fun e w' => e = .returned (.bool (tooB nl a1 a2)) ∧ Below V.heap.size V w') := by
      have := HTB.out V (some ⟨g, 0, none⟩) vc nl (by rw [HLN.out]; omega) (by obtain ⟨x, y, e, hin⟩ := HND.out.in; simp only [Value.slice.injEq] at e; rw [e.1]; exact hin)
      rw [HLN.out] at this
      exact this
    clear HTB
    go_wp2_with fail
    refine CT.out.mono ?_
    rintro e w5 ⟨rfl, hb5⟩
    have HK5 : Hid ((Below w.heap.size w w5 ∧ IR w5 w.heap.size (.int .i64 t) (.slice a n cap) ∧ S5 w5 (w.heap.size + 1) (.int .i64 a0) (.int .i64 a1) (.int .i64 a2) (.int .i64 a3) (.int .i64 a4) ∧ IR w5 (w.heap.size + 2) (.int .i64 now) (.bool good)) ∧ MkNew w5 w.heap.size (.slice (some ⟨g, 0, none⟩) (cn + 1) vc) nl) := ⟨⟨HK.out.1.1.trans (hb5.mono HK.out.1.1.size), HK.out.1.2.1.keep hb5, HK.out.1.2.2.1.keep hb5, HK.out.1.2.2.2.keep hb5⟩, (HND.out.keep hb5).lower (by have := HK.out.2; omega)⟩
    clear hb5 HK HND CT d0 d1 d2 d3 d4 df
    obtain ⟨k0, k1, kf, _⟩ := HK5.out.1.2.1
    obtain ⟨j0, j1, jf, _⟩ := HK5.out.1.2.2.2
    cases htb : tooB nl a1 a2
    · have HB0 : Hid (tooB nl a1 a2 = false) := htb
      clear htb
      go_wp2_with fail
      go_ret
      exact ⟨.inr ⟨HB0.out, some ⟨g, 0, none⟩, vc, by rw [HLN.out]; rfl, by rw [HLN.out]; exact HK5.out.2⟩, HK5.out.1.1⟩
    · have HB0 : Hid (tooB nl a1 a2 = true) := htb
      clear htb
      go_wp2_with fail
      go_ret
      exact ⟨.inl ⟨HB0.out, rfl⟩, HK5.out.1.1⟩
set_option maxHeartbeats 1000000 in
theorem noteO (t : Int) (a0 a1 a2 a3 a4 now : Int) (good : Bool) (w : World) : Calls Try.prog 73 #[.iface 134 (.agg #[.int .i64 t]), .agg #[.int .i64 a0, .int .i64 a1, .int .i64 a2, .int .i64 a3, .int .i64 a4], .agg #[.int .i64 now, .bool good]] w fun e w' => e = .returned (.iface 134 (.agg #[.int .i64 t])) ∧ Below w.heap.size w w' := by
  have q1 := asOC
  have q2 := asOH
  go_enter Try.func73, Try.ntmps73
  go_wp2
  go_ret
  exact ⟨rfl, by first | exact (((Below.refl _ _).alloc (Nat.le_refl _) _).alloc (by simp) _).alloc (by simp <;> omega) _ | exact ((Below.refl _ _).alloc (Nat.le_refl _) _).alloc (by simp) _⟩
set_option maxHeartbeats 1000000 in
theorem noteH_good (t o : Int) (a0 a1 a2 a3 a4 now : Int) (w : World) : Calls Try.prog 73 #[.iface 136 (.agg #[.int .i64 t, .int .i64 o]), .agg #[.int .i64 a0, .int .i64 a1, .int .i64 a2, .int .i64 a3, .int .i64 a4], .agg #[.int .i64 now, .bool true]] w fun e w' => e = .returned (.iface 139 (.agg #[.int .i64 t, .slice none 0 0])) ∧ Below w.heap.size w w' := by
  have q1 := asHC
  have q2 := asHH
  go_enter Try.func73, Try.ntmps73
  go_wp2
  go_ret
  exact ⟨rfl, by first | exact (((Below.refl _ _).alloc (Nat.le_refl _) _).alloc (by simp) _).alloc (by simp <;> omega) _ | exact ((Below.refl _ _).alloc (Nat.le_refl _) _).alloc (by simp) _⟩
set_option maxHeartbeats 1000000 in
theorem noteH_bad (t o : Int) (a0 a1 a2 a3 a4 now : Int) (w : World) : Calls Try.prog 73 #[.iface 136 (.agg #[.int .i64 t, .int .i64 o]), .agg #[.int .i64 a0, .int .i64 a1, .int .i64 a2, .int .i64 a3, .int .i64 a4], .agg #[.int .i64 now, .bool false]] w fun e w' => e = .returned (.iface 134 (.agg #[.int .i64 now])) ∧ Below w.heap.size w w' := by
  have q1 := asHC
  have q2 := asHH
  go_enter Try.func73, Try.ntmps73
  go_wp2
  go_ret
  exact ⟨rfl, by first | exact (((Below.refl _ _).alloc (Nat.le_refl _) _).alloc (by simp) _).alloc (by simp <;> omega) _ | exact ((Below.refl _ _).alloc (Nat.le_refl _) _).alloc (by simp) _⟩
set_option maxHeartbeats 2000000 in
theorem noteC_any (w : World) (t : Int) (a : Option Addr) (cap : Nat) (l : List Mk) (a0 a1 a2 a3 a4 now : Int) (good : Bool) (hl : l.length ≤ 60) (hi : MkIn w a l) (h0 : 0 ≤ a0 ∧ a0 ≤ 1000000) (h2 : 1 ≤ a2 ∧ a2 ≤ 1000) (hts : ∀ (i : Nat) x, l[i]? = some x → 0 ≤ x.tm ∧ x.tm ≤ 1000000000000000) :
    Calls Try.prog 73 #[.iface 139 (.agg #[.int .i64 t, .slice a l.length cap]), .agg #[.int .i64 a0, .int .i64 a1, .int .i64 a2, .int .i64 a3, .int .i64 a4], .agg #[.int .i64 now, .bool good]] w fun e w' => WithR w' w.heap.size t (noteL l a0 now good) a1 a2 now e ∧ Below w.heap.size w w' := by
  obtain ⟨W, hW⟩ : ∃ W, W = ((w.alloc (.cells #[.int .i64 a0, .int .i64 a1, .int .i64 a2, .int .i64 a3, .int .i64 a4] 53)).alloc (.cells #[.int .i64 now, .bool good] 112)).alloc (.cells #[.int .i64 t, .slice a l.length cap] 139) := ⟨_, rfl⟩
  have HW : Hid (W = ((w.alloc (.cells #[.int .i64 a0, .int .i64 a1, .int .i64 a2, .int .i64 a3, .int .i64 a4] 53)).alloc (.cells #[.int .i64 now, .bool good] 112)).alloc (.cells #[.int .i64 t, .slice a l.length cap] 139)) := hW
  have bW : Below w.heap.size w W := by rw [hW]; exact (((Below.refl _ _).alloc (Nat.le_refl _) _).alloc (by simp) _).alloc (by simp <;> omega) _
  have HB : Hid (Below w.heap.size w W) := bW
  have HC : Hid (Calls Try.prog 92 #[.agg #[.int .i64 t, .slice a l.length cap], .agg #[.int .i64 a0, .int .i64 a1, .int .i64 a2, .int .i64 a3, .int .i64 a4], .agg #[.int .i64 now, .bool good]] W fun e w' => WithR w' W.heap.size t (noteL l a0 now good) a1 a2 now e ∧ Below W.heap.size W w') := withMark_any W t a cap l a0 a1 a2 a3 a4 now good hl (hi.keep bW) h0 h2 hts
  have q1 := asCC
  clear hi hts h0 h2 hW bW
  generalize noteL l a0 now good = nl at *
  generalize l.length = n at *
  go_enter Try.func73, Try.ntmps73
  go_wp2_with fail
  rw [← HW.out]
  refine HC.out.mono ?_
  rintro e w1 ⟨hR, hb⟩
  have HBB : Hid (Below w.heap.size w w1) := HB.out.trans (hb.mono HB.out.size)
  have hsz := HB.out.size
  clear hb HC HW HB
  rcases hR with ⟨h, rfl⟩ | ⟨h, x, y, rfl, hm⟩
  · have HT : Hid (tooB nl a1 a2 = true) := h
    clear h
    go_wp2_with fail
    go_ret
    exact ⟨.inl ⟨HT.out, rfl⟩, HBB.out⟩
  · have HT : Hid (tooB nl a1 a2 = false ∧ MkNew w1 w.heap.size (.slice x nl.length y) nl) := ⟨h, hm.lower hsz⟩
    clear h hm
    go_wp2_with fail
    go_ret
    exact ⟨.inr ⟨HT.out.1, x, y, rfl, HT.out.2⟩, HBB.out⟩
end Go.Proofs.Ytmgidcigihpbeaa
