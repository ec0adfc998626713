/-
  Texts of one claim, one behind the other.
-/
import Derived.BigQuiet
import Derived.Deep.AppendLies
import Derived.Deep.CutBlock
import Derived.Deep.CutRange
import Derived.Deep.RegionHeld3
import Derived.Deep.RegionLawGrows
import Derived.Laws.StructEq
import Derived.Lib.QuietBelow
import Derived.Shelf.SlicesE.Kit
import Derived.StillTail
import Derived.Test.YtmgidcigihpbeaaMgA
/-
  An outcome that a closed breaker notes, by the program.
-/
namespace Go.Proofs.Ytmgidcigihpbeaa
open Go.ChangeShapes Go.WideShapes Go.ChangeAt Go.RowKit Go.Sort
theorem own_snoc {w : World} {base : Nat} {v : Value} {l : List Mk} {n : Nat} {now : Int} {good : Bool} (hn : l.length = n) (h : w.ownsRow base 112 2 v (n + 1) (wMk l ++ [.int .i64 now, .bool good])) : OwnMk w base v (l ++ [(⟨now, good⟩ : Mk)]) := by
  unfold OwnMk
  rw [List.length_append, hn, show wMk (l ++ [(⟨now, good⟩ : Mk)]) = wMk l ++ [.int .i64 now, .bool good] by simp [wMk, cellMk]]
  exact h
theorem OwnMk.some {w : World} {base : Nat} {v : Value} {l : List Mk} (h : OwnMk w base v l) (hl : 0 < l.length) : ∃ g c, v = .slice (some ⟨g, 0, none⟩) l.length c ∧ l.length ≤ c := by
  obtain ⟨_, h1 | ⟨g, c, cur, rfl, _, _, hc, _⟩⟩ := h
  · omega
  · exact ⟨g, c, rfl, hc⟩
def MarkR (w : World) (base : Nat) (t : Int) (l : List Mk) (e : Ending) : Prop := ∃ a c, e = .returned (.iface 139 (.agg #[.int .i64 t, .slice a l.length c])) ∧ MkNew w base (.slice a l.length c) l
def WithR (w : World) (base : Nat) (t : Int) (nl : List Mk) (a1 a2 now : Int) (e : Ending) : Prop := (tooB nl a1 a2 = true ∧ e = .returned (.iface 134 (.agg #[.int .i64 now]))) ∨ (tooB nl a1 a2 = false ∧ MarkR w base t nl e)
set_option maxRecDepth 100000 in
set_option maxHeartbeats 16000000 in
theorem withMark_any (w : World) (t : Int) (a : Option Addr) (cap : Nat) (l : List Mk) (a0 a1 a2 a3 a4 now : Int) (good : Bool) (hl : l.length ≤ 60) (hi : MkIn w a l) (h0 : 0 ≤ a0 ∧ a0 ≤ 1000000) (h2 : 1 ≤ a2 ∧ a2 ≤ 1000) (hts : ∀ (i : Nat) x, l[i]? = some x → 0 ≤ x.tm ∧ x.tm ≤ 1000000000000000) :
    Calls Try.prog 92 #[.agg #[.int .i64 t, .slice a l.length cap], .agg #[.int .i64 a0, .int .i64 a1, .int .i64 a2, .int .i64 a3, .int .i64 a4], .agg #[.int .i64 now, .bool good]] w fun e w' => WithR w' w.heap.size t (noteL l a0 now good) a1 a2 now e ∧ Below w.heap.size w w' := by
  obtain ⟨W, hW⟩ : ∃ W, W = ((w.alloc (.cells #[.int .i64 t, .slice a l.length cap] 139)).alloc (.cells #[.int .i64 a0, .int .i64 a1, .int .i64 a2, .int .i64 a3, .int .i64 a4] 53)).alloc (.cells #[.int .i64 now, .bool good] 112) := ⟨_, rfl⟩
  have HW : Hid (W = ((w.alloc (.cells #[.int .i64 t, .slice a l.length cap] 139)).alloc (.cells #[.int .i64 a0, .int .i64 a1, .int .i64 a2, .int .i64 a3, .int .i64 a4] 53)).alloc (.cells #[.int .i64 now, .bool good] 112)) := hW
  have K0 : Hid ((Below w.heap.size w W ∧ IR W w.heap.size (.int .i64 t) (.slice a l.length cap) ∧ S5 W (w.heap.size + 1) (.int .i64 a0) (.int .i64 a1) (.int .i64 a2) (.int .i64 a3) (.int .i64 a4) ∧ IR W (w.heap.size + 2) (.int .i64 now) (.bool good)) ∧ W.heap.size = w.heap.size + 3) := by
    have h1 := IR.new w (.int .i64 t) (.slice a l.length cap) 139
    obtain ⟨W1, hW1⟩ : ∃ W1, W1 = w.alloc (.cells #[.int .i64 t, .slice a l.length cap] 139) := ⟨_, rfl⟩
    rw [← hW1] at h1 hW
    have e1 : W1.heap.size = w.heap.size + 1 := by rw [hW1]; simp
    have b1 : Below w.heap.size w W1 := by rw [hW1]; exact (Below.refl _ _).alloc (Nat.le_refl _) _
    have h2 := S5.new W1 (.int .i64 a0) (.int .i64 a1) (.int .i64 a2) (.int .i64 a3) (.int .i64 a4) 53
    obtain ⟨W2, hW2⟩ : ∃ W2, W2 = W1.alloc (.cells #[.int .i64 a0, .int .i64 a1, .int .i64 a2, .int .i64 a3, .int .i64 a4] 53) := ⟨_, rfl⟩
    rw [← hW2] at h2 hW
    have e2 : W2.heap.size = w.heap.size + 2 := by rw [hW2]; simp [e1]
    have b2 : Below W1.heap.size W1 W2 := by rw [hW2]; exact (Below.refl _ _).alloc (Nat.le_refl _) _
    have b3 : Below W2.heap.size W2 W := by rw [hW]; exact (Below.refl _ _).alloc (Nat.le_refl _) _
    have h3 := IR.new W2 (.int .i64 now) (.bool good) 112
    rw [← hW] at h3
    rw [e1] at h2
    rw [e2] at h3
    have b13 := b2.trans (b3.mono b2.size)
    exact ⟨⟨b1.trans (b13.mono b1.size), h1.keep b13, h2.keep b3, h3⟩, by rw [hW]; simp [e2]⟩
  obtain ⟨Lc, hLc⟩ : ∃ L, cntL a0 now l = L := ⟨_, rfl⟩
  have hcl : Lc.length ≤ 60 := by rw [← hLc]; have := cntL_le a0 now l; omega
  obtain ⟨cn, hcn⟩ : ∃ n, Lc.length = n := ⟨_, rfl⟩
  have HLC : Hid (Lc.length = cn) := hcn
  have hcn60 : cn ≤ 60 := by omega
  have HC : Hid (∀ X, Below W.heap.size W X → Calls Try.prog 96 #[.slice a l.length cap, .int .i64 a0, .int .i64 now] X fun e w' => CntR w' X.heap.size Lc e ∧ Below X.heap.size X w') := fun X hX => by rw [← hLc]; exact counting_any X a cap l a0 now hl ((hi.keep K0.out.1.1).keep hX) h0 hts
  have HTB : Hid (∀ X b c m, m.length ≤ 61 → MkIn X b m → Calls Try.prog 97 #[.slice b m.length c, .agg #[.int .i64 a0, .int .i64 a1, .int .i64 a2, .int .i64 a3, .int .i64 a4]] X fun e w' => e = .returned (.bool (tooB m a1 a2)) ∧ Below X.heap.size X w') := fun X b c m hm hmi => tooBad_any X b c m a0 a1 a2 a3 a4 hm hmi h2
  have HNL : Hid (noteL l a0 now good = if 60 < cn + 1 then (Lc ++ [(⟨now, good⟩ : Mk)]).drop 1 else Lc ++ [(⟨now, good⟩ : Mk)]) := by
    show _ = _
    unfold noteL
    rw [hLc, List.length_append, hcn]
    rfl
  clear hi hW hts h0 h2 hLc hcl hcn
  generalize noteL l a0 now good = nl at *
  generalize l.length = n at *
  have HKS : Hid (∀ X, Below W.heap.size W X → X.cell? ⟨w.heap.size, 1, none⟩ = some (.slice a n cap) ∧ X.cell? ⟨w.heap.size + 1, 0, none⟩ = some (.int .i64 a0) ∧ X.cell? ⟨w.heap.size + 2, 0, none⟩ = some (.int .i64 now) ∧ X.cell? ⟨w.heap.size + 2, 1, none⟩ = some (.bool good)) := fun X hb => ⟨(K0.out.1.2.1.keep hb).c1, (K0.out.1.2.2.1.keep hb).c0, (K0.out.1.2.2.2.keep hb).c0, (K0.out.1.2.2.2.keep hb).c1⟩
  obtain ⟨i0, hi0, hz0, hz1, hz2⟩ := info_parts infoMk
  go_enter Try.func92, Try.ntmps92
  go_upto_region 1 with fail
  rw [← HW.out]
  go_cut [7] from 8 to 17 (fun s7 wx => ∃ v2, s7 = v2 ∧ OwnMk wx W.heap.size v2 (Lc ++ [(⟨now, good⟩ : Mk)]) ∧ Below W.heap.size W wx)
  case first =>
    have B0 : Hid (Below W.heap.size W W.drew) := (Below.refl _ _).drew
    have B0A : Hid (Below W.heap.size W (W.alloc (.cells #[.int .i64 now, .bool good] 112)).drew) := ((Below.refl _ _).alloc (Nat.le_refl _) _).drew
    have B0B : Hid (Below W.heap.size W (W.drew.alloc (.cells #[.int .i64 now, .bool good] 112))) := (Below.refl _ _).drew.alloc (Nat.le_refl _) _
    go_region_held3 (fun X => X.cell? ⟨w.heap.size, 1, none⟩ = some (.slice a n cap) ∧ X.cell? ⟨w.heap.size + 1, 0, none⟩ = some (.int .i64 a0) ∧ X.cell? ⟨w.heap.size + 2, 0, none⟩ = some (.int .i64 now) ∧ X.cell? ⟨w.heap.size + 2, 1, none⟩ = some (.bool good))
      (first | ((with_reducible refine HKS.out _ ?_); (with_reducible exact FIN.out.2)) | ((with_reducible refine HKS.out _ ?_); (with_reducible exact BA.out)) | ((with_reducible refine HKS.out _ ?_); (with_reducible exact B0.out)) | ((with_reducible refine HKS.out _ ?_); (with_reducible exact B0A.out)) | ((with_reducible refine HKS.out _ ?_); (with_reducible exact B0B.out)) | ((with_reducible refine HKS.out _ ?_); (with_reducible exact BA.out.alloc BA.out.size _)))
      (first
      | (go_at_call 96; first
        | (have HBB : Hid (Below W.heap.size W W.drew) := B0.out; (with_reducible refine (HC.out W.drew HBB.out).mono ?_); rintro r0 ua ⟨⟨v, rfl, mo⟩, hb⟩; obtain ⟨va, vc, rfl, hvc, _⟩ := mo.in; rw [HLC.out] at hvc ⊢; have BA : Hid (Below W.heap.size W ua) := HBB.out.trans (hb.mono HBB.out.size); have OA : Hid (ua.ownsRow W.heap.size 112 2 (.slice va cn vc) cn (wMk Lc)) := (by have h := mo.lower HBB.out.size; unfold OwnMk at h; rw [HLC.out] at h; exact h); clear mo hb HBB hvc)
        | (have HBB : Hid (Below W.heap.size W (W.alloc (.cells #[.int .i64 now, .bool good] 112)).drew) := B0A.out; (with_reducible refine (HC.out (W.alloc (.cells #[.int .i64 now, .bool good] 112)).drew HBB.out).mono ?_); rintro r0 ua ⟨⟨v, rfl, mo⟩, hb⟩; obtain ⟨va, vc, rfl, hvc, _⟩ := mo.in; rw [HLC.out] at hvc ⊢; have BA : Hid (Below W.heap.size W ua) := HBB.out.trans (hb.mono HBB.out.size); have OA : Hid (ua.ownsRow W.heap.size 112 2 (.slice va cn vc) cn (wMk Lc)) := (by have h := mo.lower HBB.out.size; unfold OwnMk at h; rw [HLC.out] at h; exact h); have NB : Hid (IR ua W.heap.size (.int .i64 now) (.bool good)) := ((IR.new W _ _ _).keep ((Below.refl _ _).drew)).keep hb; clear mo hb HBB hvc)
        | (have HBB : Hid (Below W.heap.size W (W.drew.alloc (.cells #[.int .i64 now, .bool good] 112))) := B0B.out; (with_reducible refine (HC.out (W.drew.alloc (.cells #[.int .i64 now, .bool good] 112)) HBB.out).mono ?_); rintro r0 ua ⟨⟨v, rfl, mo⟩, hb⟩; obtain ⟨va, vc, rfl, hvc, _⟩ := mo.in; rw [HLC.out] at hvc ⊢; have BA : Hid (Below W.heap.size W ua) := HBB.out.trans (hb.mono HBB.out.size); have OA : Hid (ua.ownsRow W.heap.size 112 2 (.slice va cn vc) cn (wMk Lc)) := (by have h := mo.lower HBB.out.size; unfold OwnMk at h; rw [HLC.out] at h; exact h); have NB : Hid (IR ua W.heap.size (.int .i64 now) (.bool good)) := (IR.new W.drew _ _ _).keep hb; clear mo hb HBB hvc))
      | (have NBx := NB.out; have BX : Hid (Below W.heap.size W ua) := BA.out; refine step_append_in ua (by rfl) _ _ 49 112 (by rfl) i0 _ 2 16 Try.underlying49 hi0 hz0 hz1 hz2 rfl (by omega) W.heap.size _ cn (wMk Lc) (by rfl) OA.out (some ⟨W.heap.size, 0, none⟩) 1 1 [.int .i64 now, .bool good] (by rfl) rfl (.inr ⟨_, rfl, fun j u hj => by match j, hj with | 0, hj => (simp at hj; subst hj; simp [Addr.add]; exact NBx.c0) | 1, hj => (simp at hj; subst hj; simp [Addr.add]; exact NBx.c1)⟩) (fun u hu => by simp at hu; rcases hu with rfl | rfl <;> rfl) (by unfold maxLen; omega) (by omega) BA.out.size ?_; intro v2 w2 h1 h2 _; have FIN : Hid (OwnMk w2 W.heap.size v2 (Lc ++ [(⟨now, good⟩ : Mk)]) ∧ Below W.heap.size W w2) := ⟨own_snoc HLC.out h1, BX.out.trans h2⟩; clear h1 h2)
      | (have BX : Hid (Below W.heap.size W (ua.alloc (.cells #[.int .i64 now, .bool good] 112))) := BA.out.alloc BA.out.size _; have OX : Hid ((ua.alloc (.cells #[.int .i64 now, .bool good] 112)).ownsRow W.heap.size 112 2 (.slice va cn vc) cn (wMk Lc)) := row_below OA.out ((Below.refl _ _).alloc (Nat.le_refl _) _); refine step_append_in (ua.alloc (.cells #[.int .i64 now, .bool good] 112)) (by rfl) _ _ 49 112 (by rfl) i0 _ 2 16 Try.underlying49 hi0 hz0 hz1 hz2 rfl (by omega) W.heap.size _ cn (wMk Lc) (by rfl) OX.out (some ⟨ua.heap.size, 0, none⟩) 1 1 [.int .i64 now, .bool good] (by rfl) rfl (.inr ⟨_, rfl, fun j u hj => by match j, hj with | 0, hj => (simp at hj; subst hj; simp [Addr.add]) | 1, hj => (simp at hj; subst hj; simp [Addr.add])⟩) (fun u hu => by simp at hu; rcases hu with rfl | rfl <;> rfl) (by unfold maxLen; omega) (by omega) BX.out.size ?_; intro v2 w2 h1 h2 _; have FIN : Hid (OwnMk w2 W.heap.size v2 (Lc ++ [(⟨now, good⟩ : Mk)]) ∧ Below W.heap.size W w2) := ⟨own_snoc HLC.out h1, BX.out.trans h2⟩; clear h1 h2))
    all_goals (go_wp2_with fail; go_meet; exact ⟨_, rfl, FIN.out.1, FIN.out.2⟩)
  case rest =>
  obtain ⟨v2, rfl, ho, hbx⟩ := hcut
  have hlen : (Lc ++ [(⟨now, good⟩ : Mk)]).length = cn + 1 := by rw [List.length_append, HLC.out]; rfl
  have hnew := ho.new
  obtain ⟨g, vc, rfl, hvc⟩ := ho.some (by omega)
  rw [hlen] at hnew hvc ⊢
  have HNW : Hid (MkNew wc W.heap.size (.slice (some ⟨g, 0, none⟩) (cn + 1) vc) (Lc ++ [(⟨now, good⟩ : Mk)])) := hnew
  have HK : Hid ((Below w.heap.size w wc ∧ IR wc w.heap.size (.int .i64 t) (.slice a n cap) ∧ S5 wc (w.heap.size + 1) (.int .i64 a0) (.int .i64 a1) (.int .i64 a2) (.int .i64 a3) (.int .i64 a4) ∧ IR wc (w.heap.size + 2) (.int .i64 now) (.bool good)) ∧ w.heap.size + 3 ≤ W.heap.size) := ⟨⟨K0.out.1.1.trans (hbx.mono K0.out.1.1.size), K0.out.1.2.1.keep hbx, K0.out.1.2.2.1.keep hbx, K0.out.1.2.2.2.keep hbx⟩, Nat.le_of_eq K0.out.2.symm⟩
  clear ho hbx hnew K0 HW HC HKS
  generalize wc = V at *
  have HML : Hid ((Lc ++ [(⟨now, good⟩ : Mk)]).length = cn + 1) := hlen
  clear hlen
  obtain ⟨d0, d1, d2, d3, d4, df, _⟩ := HK.out.1.2.2.1
  by_cases hbig : 60 < cn + 1
  · have ecn : cn = 60 := by omega
    subst ecn
    have HNE : Hid (nl = (Lc ++ [(⟨now, good⟩ : Mk)]).drop 1) := by show _ = _; rw [HNL.out, if_pos hbig]
    have HND : Hid (MkNew V W.heap.size (.slice (some ⟨g, 2, none⟩) (60) (vc - 1)) nl) := by rw [HNE.out]; exact HNW.out.drop1 HML.out
    have HLN : Hid (nl.length = 60) := by show _ = _; rw [HNE.out, List.length_drop, HML.out]
    clear HNL HNW HNE hbig
    have hv1 : (61 : Int) ≤ vc := by omega
    have CT : Hid (Calls Try.prog 97 #[.slice (some ⟨g, 2, none⟩) (60) (vc - 1), .agg #[.int .i64 a0, .int .i64 a1, .int .i64 a2, .int .i64 a3, .int .i64 a4]] V fun e w' => e = .returned (.bool (tooB nl a1 a2)) ∧ Below V.heap.size V w') := by
      have := HTB.out V (some ⟨g, 2, none⟩) (vc - 1) nl (by rw [HLN.out]; omega) (by obtain ⟨x, y, e, hin⟩ := HND.out.in; simp only [Value.slice.injEq] at e; rw [e.1]; exact hin)
      rw [HLN.out] at this
      exact this
    clear HTB
    go_wp2_with fail
    refine CT.out.mono ?_
    rintro e w5 ⟨rfl, hb5⟩
    have HK5 : Hid ((Below w.heap.size w w5 ∧ IR w5 w.heap.size (.int .i64 t) (.slice a n cap) ∧ S5 w5 (w.heap.size + 1) (.int .i64 a0) (.int .i64 a1) (.int .i64 a2) (.int .i64 a3) (.int .i64 a4) ∧ IR w5 (w.heap.size + 2) (.int .i64 now) (.bool good)) ∧ MkNew w5 w.heap.size (.slice (some ⟨g, 2, none⟩) (60) (vc - 1)) nl) := ⟨⟨HK.out.1.1.trans (hb5.mono HK.out.1.1.size), HK.out.1.2.1.keep hb5, HK.out.1.2.2.1.keep hb5, HK.out.1.2.2.2.keep hb5⟩, (HND.out.keep hb5).lower (by have := HK.out.2; omega)⟩
    clear hb5 HK HND CT d0 d1 d2 d3 d4 df
    obtain ⟨k0, k1, kf, _⟩ := HK5.out.1.2.1
    obtain ⟨j0, j1, jf, _⟩ := HK5.out.1.2.2.2
    cases htb : tooB nl a1 a2
    · have HB0 : Hid (tooB nl a1 a2 = false) := htb
      clear htb
      go_wp2_with fail
      go_ret
      exact ⟨.inr ⟨HB0.out, some ⟨g, 2, none⟩, (vc - 1), by rw [HLN.out]; rfl, by rw [HLN.out]; exact HK5.out.2⟩, HK5.out.1.1⟩
    · have HB0 : Hid (tooB nl a1 a2 = true) := htb
      clear htb
      go_wp2_with fail
      go_ret
      exact ⟨.inl ⟨HB0.out, rfl⟩, HK5.out.1.1⟩
  · have HNE : Hid (nl = Lc ++ [(⟨now, good⟩ : Mk)]) := by show _ = _; rw [HNL.out, if_neg hbig]
    have HND : Hid (MkNew V W.heap.size (.slice (some ⟨g, 0, none⟩) (cn + 1) vc) nl) := by rw [HNE.out]; exact HNW.out
    have HLN : Hid (nl.length = cn + 1) := by show _ = _; rw [HNE.out, HML.out]
    have hs1 : ¬ (60 : Int) < ((cn + 1 : Nat) : Int) := by omega
    clear HNL HNW HNE
    have CT : Hid (Calls Try.prog 97 #[.slice (some ⟨g, 0, none⟩) (cn + 1) vc, .agg #[.int .i64 a0, .int .i64 a1, .int .i64 a2, .int .i64 a3, .int .i64 a4]] V fun e w' => e = .returned (.bool (tooB nl a1 a2)) ∧ Below V.heap.size V w') := by
      have := HTB.out V (some ⟨g, 0, none⟩) vc nl (by rw [HLN.out]; omega) (by obtain ⟨x, y, e, hin⟩ := HND.out.in; simp only [Value.slice.injEq] at e; rw [e.1]; exact hin)
      rw [HLN.out] at this
      exact this
    clear HTB
    go_wp2_with fail
    refine CT.out.mono ?_
    rintro e w5 ⟨rfl, hb5⟩
    have HK5 : Hid ((Below w.heap.size w w5 ∧ IR w5 w.heap.size (.int .i64 t) (.slice a n cap) ∧ S5 w5 (w.heap.size + 1) (.int .i64 a0) (.int .i64 a1) (.int .i64 a2) (.int .i64 a3) (.int .i64 a4) ∧ IR w5 (w.heap.size + 2) (.int .i64 now) (.bool good)) ∧ MkNew w5 w.heap.size (.slice (some ⟨g, 0, none⟩) (cn + 1) vc) nl) := ⟨⟨HK.out.1.1.trans (hb5.mono HK.out.1.1.size), HK.out.1.2.1.keep hb5, HK.out.1.2.2.1.keep hb5, HK.out.1.2.2.2.keep hb5⟩, (HND.out.keep hb5).lower (by have := HK.out.2; omega)⟩
    clear hb5 HK HND CT d0 d1 d2 d3 d4 df
    obtain ⟨k0, k1, kf, _⟩ := HK5.out.1.2.1
    obtain ⟨j0, j1, jf, _⟩ := HK5.out.1.2.2.2
    cases htb : tooB nl a1 a2
    · have HB0 : Hid (tooB nl a1 a2 = false) := htb
      clear htb
      go_wp2_with fail
      go_ret
      exact ⟨.inr ⟨HB0.out, some ⟨g, 0, none⟩, vc, by rw [HLN.out]; rfl, by rw [HLN.out]; exact HK5.out.2⟩, HK5.out.1.1⟩
    · have HB0 : Hid (tooB nl a1 a2 = true) := htb
      clear htb
      go_wp2_with fail
      go_ret
      exact ⟨.inl ⟨HB0.out, rfl⟩, HK5.out.1.1⟩
set_option maxHeartbeats 1000000 in
theorem noteO (t : Int) (a0 a1 a2 a3 a4 now : Int) (good : Bool) (w : World) : Calls Try.prog 73 #[.iface 134 (.agg #[.int .i64 t]), .agg #[.int .i64 a0, .int .i64 a1, .int .i64 a2, .int .i64 a3, .int .i64 a4], .agg #[.int .i64 now, .bool good]] w fun e w' => e = .returned (.iface 134 (.agg #[.int .i64 t])) ∧ Below w.heap.size w w' := by
  have q1 := asOC
  have q2 := asOH
  go_enter Try.func73, Try.ntmps73
  go_wp2
  go_ret
  exact ⟨rfl, by first | exact (((Below.refl _ _).alloc (Nat.le_refl _) _).alloc (by simp) _).alloc (by simp <;> omega) _ | exact ((Below.refl _ _).alloc (Nat.le_refl _) _).alloc (by simp) _⟩
set_option maxHeartbeats 1000000 in
theorem noteH_good (t o : Int) (a0 a1 a2 a3 a4 now : Int) (w : World) : Calls Try.prog 73 #[.iface 136 (.agg #[.int .i64 t, .int .i64 o]), .agg #[.int .i64 a0, .int .i64 a1, .int .i64 a2, .int .i64 a3, .int .i64 a4], .agg #[.int .i64 now, .bool true]] w fun e w' => e = .returned (.iface 139 (.agg #[.int .i64 t, .slice none 0 0])) ∧ Below w.heap.size w w' := by
  have q1 := asHC
  have q2 := asHH
  go_enter Try.func73, Try.ntmps73
  go_wp2
  go_ret
  exact ⟨rfl, by first | exact (((Below.refl _ _).alloc (Nat.le_refl _) _).alloc (by simp) _).alloc (by simp <;> omega) _ | exact ((Below.refl _ _).alloc (Nat.le_refl _) _).alloc (by simp) _⟩
set_option maxHeartbeats 1000000 in
theorem noteH_bad (t o : Int) (a0 a1 a2 a3 a4 now : Int) (w : World) : Calls Try.prog 73 #[.iface 136 (.agg #[.int .i64 t, .int .i64 o]), .agg #[.int .i64 a0, .int .i64 a1, .int .i64 a2, .int .i64 a3, .int .i64 a4], .agg #[.int .i64 now, .bool false]] w fun e w' => e = .returned (.iface 134 (.agg #[.int .i64 now])) ∧ Below w.heap.size w w' := by
  have q1 := asHC
  have q2 := asHH
  go_enter Try.func73, Try.ntmps73
  go_wp2
  go_ret
  exact ⟨rfl, by first | exact (((Below.refl _ _).alloc (Nat.le_refl _) _).alloc (by simp) _).alloc (by simp <;> omega) _ | exact ((Below.refl _ _).alloc (Nat.le_refl _) _).alloc (by simp) _⟩
set_option maxHeartbeats 2000000 in
theorem noteC_any (w : World) (t : Int) (a : Option Addr) (cap : Nat) (l : List Mk) (a0 a1 a2 a3 a4 now : Int) (good : Bool) (hl : l.length ≤ 60) (hi : MkIn w a l) (h0 : 0 ≤ a0 ∧ a0 ≤ 1000000) (h2 : 1 ≤ a2 ∧ a2 ≤ 1000) (hts : ∀ (i : Nat) x, l[i]? = some x → 0 ≤ x.tm ∧ x.tm ≤ 1000000000000000) :
    Calls Try.prog 73 #[.iface 139 (.agg #[.int .i64 t, .slice a l.length cap]), .agg #[.int .i64 a0, .int .i64 a1, .int .i64 a2, .int .i64 a3, .int .i64 a4], .agg #[.int .i64 now, .bool good]] w fun e w' => WithR w' w.heap.size t (noteL l a0 now good) a1 a2 now e ∧ Below w.heap.size w w' := by
  obtain ⟨W, hW⟩ : ∃ W, W = ((w.alloc (.cells #[.int .i64 a0, .int .i64 a1, .int .i64 a2, .int .i64 a3, .int .i64 a4] 53)).alloc (.cells #[.int .i64 now, .bool good] 112)).alloc (.cells #[.int .i64 t, .slice a l.length cap] 139) := ⟨_, rfl⟩
  have HW : Hid (W = ((w.alloc (.cells #[.int .i64 a0, .int .i64 a1, .int .i64 a2, .int .i64 a3, .int .i64 a4] 53)).alloc (.cells #[.int .i64 now, .bool good] 112)).alloc (.cells #[.int .i64 t, .slice a l.length cap] 139)) := hW
  have bW : Below w.heap.size w W := by rw [hW]; exact (((Below.refl _ _).alloc (Nat.le_refl _) _).alloc (by simp) _).alloc (by simp <;> omega) _
  have HB : Hid (Below w.heap.size w W) := bW
  have HC : Hid (Calls Try.prog 92 #[.agg #[.int .i64 t, .slice a l.length cap], .agg #[.int .i64 a0, .int .i64 a1, .int .i64 a2, .int .i64 a3, .int .i64 a4], .agg #[.int .i64 now, .bool good]] W fun e w' => WithR w' W.heap.size t (noteL l a0 now good) a1 a2 now e ∧ Below W.heap.size W w') := withMark_any W t a cap l a0 a1 a2 a3 a4 now good hl (hi.keep bW) h0 h2 hts
  have q1 := asCC
  clear hi hts h0 h2 hW bW
  generalize noteL l a0 now good = nl at *
  generalize l.length = n at *
  go_enter Try.func73, Try.ntmps73
  go_wp2_with fail
  rw [← HW.out]
  refine HC.out.mono ?_
  rintro e w1 ⟨hR, hb⟩
  have HBB : Hid (Below w.heap.size w w1) := HB.out.trans (hb.mono HB.out.size)
  have hsz := HB.out.size
  clear hb HC HW HB
  rcases hR with ⟨h, rfl⟩ | ⟨h, x, y, rfl, hm⟩
  · have HT : Hid (tooB nl a1 a2 = true) := h
    clear h
    go_wp2_with fail
    go_ret
    exact ⟨.inl ⟨HT.out, rfl⟩, HBB.out⟩
  · have HT : Hid (tooB nl a1 a2 = false ∧ MkNew w1 w.heap.size (.slice x nl.length y) nl) := ⟨h, hm.lower hsz⟩
    clear h hm
    go_wp2_with fail
    go_ret
    exact ⟨.inr ⟨HT.out.1, x, y, rfl, HT.out.2⟩, HBB.out⟩
end Go.Proofs.Ytmgidcigihpbeaa
/-
  AllowFetch, by the model.
-/
namespace Go.Proofs.Ytmgidcigihpbeaa
open Go.ChangeShapes Go.WideShapes Go.ChangeAt Go.RowKit Go.Sort
def CopyR (w : World) (base : Nat) (s t o : Int) (l : List Mk) (e : Ending) : Prop := ∃ a c, e = .returned (.agg #[.int .i64 s, .int .i64 t, .int .i64 o, .slice a l.length c]) ∧ MkNew w base (.slice a l.length c) l
set_option maxRecDepth 100000 in
set_option maxHeartbeats 4000000 in
theorem specCopy_any (w : World) (B : Nat) (s t o : Int) (a : Option Addr) (cap : Nat) (l : List Mk) (hl : l.length ≤ 1048576) (hB : S4 w B (.int .i64 s) (.int .i64 t) (.int .i64 o) (.slice a l.length cap)) (hi : MkIn w a l) :
    Calls Try.prog 66 #[.pointer (some ⟨B, 0, none⟩)] w fun e w' => CopyR w' w.heap.size s t o l e ∧ Below w.heap.size w w' := by
  obtain ⟨W, hW⟩ : ∃ W, W = ((w.alloc (.cells #[.int .i64 0, .int .i64 0, .int .i64 0, .slice none 0 0] 51)).alloc (.cells #[.int .i64 s, .int .i64 t, .int .i64 o, .slice a l.length cap] 51)) := ⟨_, rfl⟩
  have HW : Hid (W = ((w.alloc (.cells #[.int .i64 0, .int .i64 0, .int .i64 0, .slice none 0 0] 51)).alloc (.cells #[.int .i64 s, .int .i64 t, .int .i64 o, .slice a l.length cap] 51))) := hW
  have bW : Below w.heap.size w W := by rw [hW]; exact ((Below.refl _ _).alloc (Nat.le_refl _) _).alloc (by simp) _
  have hsz : W.heap.size = w.heap.size + 2 := by rw [hW]; simp
  have f0 : S4 W w.heap.size (.int .i64 0) (.int .i64 0) (.int .i64 0) (.slice none 0 0) := by rw [hW]; exact (S4.new w _ _ _ _ _).keep ((Below.refl _ _).alloc (Nat.le_refl _) _)
  have f1 : S4 W (w.heap.size + 1) (.int .i64 s) (.int .i64 t) (.int .i64 o) (.slice a l.length cap) := by
    have := S4.new (w.alloc (.cells #[.int .i64 0, .int .i64 0, .int .i64 0, .slice none 0 0] 51)) (.int .i64 s) (.int .i64 t) (.int .i64 o) (.slice a l.length cap) 51
    rw [hW]; simpa using this
  have K0 : Hid (Below w.heap.size w W ∧ W.heap.size = w.heap.size + 2 ∧ S4 W w.heap.size (.int .i64 0) (.int .i64 0) (.int .i64 0) (.slice none 0 0) ∧ S4 W (w.heap.size + 1) (.int .i64 s) (.int .i64 t) (.int .i64 o) (.slice a l.length cap)) := ⟨bW, hsz, f0, f1⟩
  have HO0 : Hid (OwnMk (W.alloc (.cells #[] 112)) W.heap.size (.slice (some ⟨W.heap.size, 0, none⟩) 0 0) []) := OwnMk.made0 W W.heap.size (Nat.le_refl _)
  have HB0 : Hid (Below W.heap.size W (W.alloc (.cells #[] 112))) := (Below.refl _ _).alloc (Nat.le_refl _) _
  have HI : Hid (MkIn (W.alloc (.cells #[] 112)) a l) := (hi.keep bW).keep HB0.out
  have HBB : Hid (S4 w B (.int .i64 s) (.int .i64 t) (.int .i64 o) (.slice a l.length cap)) := hB
  have cB := (hB.keep bW).keep HB0.out
  obtain ⟨b0, b1, b2, b3, bf, _⟩ := cB
  obtain ⟨y0, y1, y2, y3, yf, _⟩ := hB
  rw [hW] at b0 b1 b2 b3 bf
  obtain ⟨n, hn⟩ : ∃ n, l.length = n := ⟨_, rfl⟩
  have HN : Hid (l.length = n) := hn
  rw [hn] at hl b0 b1 b2 b3 bf HW K0 HBB y3
  clear hW bW hsz f0 f1 hi hn
  have hsz2 : ((w.alloc (.cells #[.int .i64 0, .int .i64 0, .int .i64 0, .slice none 0 0] 51)).alloc (.cells #[.int .i64 s, .int .i64 t, .int .i64 o, .slice a n cap] 51)).heap.size = w.heap.size + 2 := by simp
  rw [HW.out, hsz2] at HO0 HB0
  rw [HW.out] at HI
  go_enter Try.func66, Try.ntmps66
  go_wp2_with (at_builtin; refine wpList_appendInMk _ rfl (.tmp 7) (.tmp 11) rfl (w.heap.size + 2) _ [] l a cap rfl (by rw [HN.out]; rfl) HO0.out HI.out (by simp; have := HN.out; omega) (by simp) ?_; intro v1 w1 ho1 hb1; obtain ⟨va, vc, rfl, _, _⟩ := ho1.in; rw [List.nil_append] at ho1; simp only [List.nil_append] at ho1 ⊢; rw [HN.out] at ho1 ⊢; have HX : Hid (OwnMk w1 (w.heap.size + 2) (.slice va n vc) l ∧ Below (w.heap.size + 2) ((w.alloc (.cells #[.int .i64 0, .int .i64 0, .int .i64 0, .slice none 0 0] 51)).alloc (.cells #[.int .i64 s, .int .i64 t, .int .i64 o, .slice a n cap] 51)) w1) := ⟨ho1, HB0.out.trans hb1⟩; clear ho1 hb1 b0 b1 b2 b3 bf y0 y1 y2 y3 yf; obtain ⟨k0, k1, k2, k3, kf, _⟩ := (by have := K0.out.2.2.2; rw [HW.out] at this; exact this.low HX.out.2 (by omega) : S4 w1 (w.heap.size + 1) (.int .i64 s) (.int .i64 t) (.int .i64 o) (.slice a n cap)); obtain ⟨j0, j1, j2, j3, jf, _⟩ := (by have := K0.out.2.2.1; rw [HW.out] at this; exact this.low HX.out.2 (by omega) : S4 w1 w.heap.size (.int .i64 0) (.int .i64 0) (.int .i64 0) (.slice none 0 0)))
  have HBL : Hid (Below w.heap.size w w1) := by
    have := K0.out.1
    rw [HW.out] at this
    exact this.trans (HX.out.2.mono (by omega))
  have HM : Hid (∀ x y0 y1 y2 y3, MkNew (((((w1.setCell ⟨w.heap.size + 1, 3, none⟩ x).setCell ⟨w.heap.size, 0, none⟩ y0).setCell ⟨w.heap.size, 1, none⟩ y1).setCell ⟨w.heap.size, 2, none⟩ y2).setCell ⟨w.heap.size, 3, none⟩ y3) w.heap.size (.slice va n vc) l) := fun x y0 y1 y2 y3 => by
    have hne : ∀ G, (Value.slice va n vc).ownBlock = some G → w.heap.size + 2 ≤ G := fun G hG => row_ge HX.out.1 G hG
    refine MkNew.lower ?_ (Nat.le_add_right _ 2)
    refine MkNew.gb (g := w.heap.size) ?_ (gbSet _ _ _ _) (fun G hG => by have := hne G hG; omega)
    refine MkNew.gb (g := w.heap.size) ?_ (gbSet _ _ _ _) (fun G hG => by have := hne G hG; omega)
    refine MkNew.gb (g := w.heap.size) ?_ (gbSet _ _ _ _) (fun G hG => by have := hne G hG; omega)
    refine MkNew.gb (g := w.heap.size) ?_ (gbSet _ _ _ _) (fun G hG => by have := hne G hG; omega)
    exact MkNew.gb (g := w.heap.size + 1) HX.out.1.new (gbSet _ _ _ _) (fun G hG => by have := hne G hG; omega)
  exact bodyPost_ret (v := .agg #[.int .i64 s, .int .i64 t, .int .i64 o, .slice va n vc]) (by simp [results, Try.results66, go_sem, j0, j1, j2, j3]) rfl ⟨⟨va, vc, by rw [HN.out], by rw [HN.out]; exact HM.out _ _ _ _ _⟩, ((((HBL.out.setCell (by simp <;> omega) _).setCell (by simp <;> omega) _).setCell (by simp <;> omega) _).setCell (by simp <;> omega) _).setCell (by simp <;> omega) _⟩
set_option maxRecDepth 100000 in
set_option maxHeartbeats 4000000 in
theorem specLetIn_any (w : World) (B R : Nat) (s t o : Int) (m : Value) (a0 a1 a2 a3 a4 now : Int) (hs : s = 0 ∨ s = 1 ∨ s = 2) (ht : 0 ≤ t ∧ t ≤ now ∧ now ≤ 1000000000000000) (ho : 0 ≤ o ∧ o ≤ 5) (hB : S4 w B (.int .i64 s) (.int .i64 t) (.int .i64 o) m) (hR : S5 w R (.int .i64 a0) (.int .i64 a1) (.int .i64 a2) (.int .i64 a3) (.int .i64 a4)) :
    Calls Try.prog 67 #[.pointer (some ⟨B, 0, none⟩), .pointer (some ⟨R, 0, none⟩), .int .i64 now] w fun e w' => e = .returned (.bool (alB s t o a3 a4 now)) ∧ S4 w' B (.int .i64 (alS s t o a3 a4 now)) (.int .i64 t) (.int .i64 (alO s t o a3 a4 now)) m ∧ w.grownBy w' (some B) := by
  have HSB : Hid (S4 w B (.int .i64 s) (.int .i64 t) (.int .i64 o) m) := hB
  obtain ⟨c0, c1, c2, c3, fr, _⟩ := hB
  obtain ⟨d0, d1, d2, d3, d4, fd, _⟩ := hR
  rcases hs with rfl | rfl | rfl
  · have HE : Hid (alB 0 t o a3 a4 now = true ∧ alS 0 t o a3 a4 now = 0 ∧ alO 0 t o a3 a4 now = o) := ⟨by simp [alB], by simp [alS], by simp [alO]⟩
    rw [HE.out.1, HE.out.2.1, HE.out.2.2]
    go_enter Try.func67, Try.ntmps67
    go_wp2_with fail
    go_ret
    exact ⟨rfl, HSB.out, gbRefl _ _⟩
  · have w1 : IntKind.i64.wrap (now - t) = now - t := by rw [IntKind.wrap_i64]; omega
    have C1 := cell_regrown c1
    have D3 := cell_regrown d3
    have f2 := fr 2
    have f0 := fr 0
    by_cases hx : now - t < a3
    · have HE : Hid (alB 1 t o a3 a4 now = false ∧ alS 1 t o a3 a4 now = 1 ∧ alO 1 t o a3 a4 now = o) := ⟨by simp [alB, hx], by simp [alS, alB, hx], by simp [alO, alB, hx]⟩
      rw [HE.out.1, HE.out.2.1, HE.out.2.2]
      clear HE fr fd
      go_enter Try.func67, Try.ntmps67
      go_wp2_with fail
      refine wp_region_quiet_below (by kernel_rfl) (by kernel_rfl) ?_
      repeat (go_big_quiet_step (fail))
      refine wpQuiet_nil ?_
      intro w2 hw2
      have hbb : Below w.heap.size w w2 := by
        obtain ⟨⟨d, os⟩, rfl⟩ := hw2
        exact below_regrown w d os
      clear C1 D3 hw2
      go_wp2_with fail
      go_ret
      exact ⟨rfl, HSB.out.keep hbb, gbBelow _ hbb⟩
    · have HE : Hid (alB 1 t o a3 a4 now = true ∧ alS 1 t o a3 a4 now = 2 ∧ alO 1 t o a3 a4 now = 1) := ⟨by simp [alB, hx], by simp [alS, alB, hx], by simp [alO, alB, hx]⟩
      rw [HE.out.1, HE.out.2.1, HE.out.2.2]
      clear HE fr fd
      go_enter Try.func67, Try.ntmps67
      go_wp2_with fail
      refine wp_region_quiet_below (by kernel_rfl) (by kernel_rfl) ?_
      repeat (go_big_quiet_step (fail))
      refine wpQuiet_nil ?_
      intro w2 hw2
      have hbb : Below w.heap.size w w2 := by
        obtain ⟨⟨d, os⟩, rfl⟩ := hw2
        exact below_regrown w d os
      have HK : Hid (S4 w2 B (.int .i64 1) (.int .i64 t) (.int .i64 o) m ∧ w.grownBy w2 (some B)) := ⟨HSB.out.keep hbb, gbBelow _ hbb⟩
      obtain ⟨e0, e1, e2, e3, ef, _⟩ := HK.out.1
      have ef0 := ef 0
      have ef2 := ef 2
      clear C1 D3 hw2 hbb c0 c1 c2 c3 d0 d1 d2 d3 d4 f0 f2 ef
      go_wp2_with fail
      go_ret
      exact ⟨rfl, (HK.out.1.set0 _).set2 _, gbTrans (gbTrans HK.out.2 (gbSet _ _ _ _)) (gbSet _ _ _ _)⟩
  · have w1 : IntKind.i64.wrap (o + 1) = o + 1 := by rw [IntKind.wrap_i64]; omega
    have C2 := cell_regrown c2
    have D4 := cell_regrown d4
    by_cases hx : a4 ≤ o
    · have HE : Hid (alB 2 t o a3 a4 now = false ∧ alS 2 t o a3 a4 now = 2 ∧ alO 2 t o a3 a4 now = o) := ⟨by simp [alB, hx], by simp [alS], by simp [alO, alB, hx]⟩
      rw [HE.out.1, HE.out.2.1, HE.out.2.2]
      clear HE fr fd
      go_enter Try.func67, Try.ntmps67
      go_wp2_with fail
      refine wp_region_quiet_below (by kernel_rfl) (by kernel_rfl) ?_
      repeat (go_big_quiet_step (fail))
      refine wpQuiet_nil ?_
      intro w2 hw2
      have hbb : Below w.heap.size w w2 := by
        obtain ⟨⟨d, os⟩, rfl⟩ := hw2
        exact below_regrown w d os
      clear C2 D4 hw2
      go_wp2_with fail
      go_ret
      exact ⟨rfl, HSB.out.keep hbb, gbBelow _ hbb⟩
    · have HE : Hid (alB 2 t o a3 a4 now = true ∧ alS 2 t o a3 a4 now = 2 ∧ alO 2 t o a3 a4 now = o + 1) := ⟨by simp [alB, hx], by simp [alS], by simp [alO, alB, hx]⟩
      rw [HE.out.1, HE.out.2.1, HE.out.2.2]
      clear HE fr fd
      go_enter Try.func67, Try.ntmps67
      go_wp2_with fail
      refine wp_region_quiet_below (by kernel_rfl) (by kernel_rfl) ?_
      repeat (go_big_quiet_step (fail))
      refine wpQuiet_nil ?_
      intro w2 hw2
      have hbb : Below w.heap.size w w2 := by
        obtain ⟨⟨d, os⟩, rfl⟩ := hw2
        exact below_regrown w d os
      have HK : Hid (S4 w2 B (.int .i64 2) (.int .i64 t) (.int .i64 o) m ∧ w.grownBy w2 (some B)) := ⟨HSB.out.keep hbb, gbBelow _ hbb⟩
      obtain ⟨e0, e1, e2, e3, ef, _⟩ := HK.out.1
      have ef2 := ef 2
      clear C2 D4 hw2 hbb c0 c1 c2 c3 d0 d1 d2 d3 d4 ef
      go_wp2_with fail
      go_ret
      exact ⟨rfl, HK.out.1.set2 _, gbTrans HK.out.2 (gbSet _ _ _ _)⟩
end Go.Proofs.Ytmgidcigihpbeaa
/-
  AllowFetch, by the model and by the program.
-/
namespace Go.Proofs.Ytmgidcigihpbeaa
open Go.ChangeShapes Go.WideShapes Go.ChangeAt Go.RowKit Go.Sort
set_option maxRecDepth 100000 in
set_option maxHeartbeats 8000000 in
theorem specAllow_any (w : World) (s t o : Int) (a : Option Addr) (cap : Nat) (l : List Mk) (a0 a1 a2 a3 a4 now : Int) (hl : l.length ≤ 1048576) (hi : MkIn w a l) :
    Calls Try.prog 27 #[.agg #[.int .i64 s, .int .i64 t, .int .i64 o, .slice a l.length cap], .agg #[.int .i64 a0, .int .i64 a1, .int .i64 a2, .int .i64 a3, .int .i64 a4], .int .i64 now] w fun e w' => AllowRes w' w.heap.size (allowR s t o l a0 a1 a2 a3 a4 now) e ∧ Below w.heap.size w w' := by
  obtain ⟨W, hW⟩ : ∃ W, W = ((w.alloc (.cells #[.int .i64 s, .int .i64 t, .int .i64 o, .slice a l.length cap] 51)).alloc (.cells #[.int .i64 a0, .int .i64 a1, .int .i64 a2, .int .i64 a3, .int .i64 a4] 53)).alloc (.cells #[.int .i64 0, .int .i64 0, .int .i64 0, .int .i64 0, .slice none 0 0, .bool false] 57) := ⟨_, rfl⟩
  have HW : Hid (W = ((w.alloc (.cells #[.int .i64 s, .int .i64 t, .int .i64 o, .slice a l.length cap] 51)).alloc (.cells #[.int .i64 a0, .int .i64 a1, .int .i64 a2, .int .i64 a3, .int .i64 a4] 53)).alloc (.cells #[.int .i64 0, .int .i64 0, .int .i64 0, .int .i64 0, .slice none 0 0, .bool false] 57)) := hW
  have K0 : Hid ((Below w.heap.size w W ∧ S4 W w.heap.size (.int .i64 s) (.int .i64 t) (.int .i64 o) (.slice a l.length cap) ∧ S5 W (w.heap.size + 1) (.int .i64 a0) (.int .i64 a1) (.int .i64 a2) (.int .i64 a3) (.int .i64 a4) ∧ C6 W (w.heap.size + 2) (.int .i64 0) (.int .i64 0) (.int .i64 0) (.int .i64 0) (.slice none 0 0) (.bool false)) ∧ W.heap.size = w.heap.size + 3) := by
    have h1 := S4.new w (.int .i64 s) (.int .i64 t) (.int .i64 o) (.slice a l.length cap) 51
    obtain ⟨W1, hW1⟩ : ∃ W1, W1 = w.alloc (.cells #[.int .i64 s, .int .i64 t, .int .i64 o, .slice a l.length cap] 51) := ⟨_, rfl⟩
    rw [← hW1] at h1 hW
    have e1 : W1.heap.size = w.heap.size + 1 := by rw [hW1]; simp
    have b1 : Below w.heap.size w W1 := by rw [hW1]; exact (Below.refl _ _).alloc (Nat.le_refl _) _
    have h2 := S5.new W1 (.int .i64 a0) (.int .i64 a1) (.int .i64 a2) (.int .i64 a3) (.int .i64 a4) 53
    obtain ⟨W2, hW2⟩ : ∃ W2, W2 = W1.alloc (.cells #[.int .i64 a0, .int .i64 a1, .int .i64 a2, .int .i64 a3, .int .i64 a4] 53) := ⟨_, rfl⟩
    rw [← hW2] at h2 hW
    have e2 : W2.heap.size = w.heap.size + 2 := by rw [hW2]; simp [e1]
    have b2 : Below W1.heap.size W1 W2 := by rw [hW2]; exact (Below.refl _ _).alloc (Nat.le_refl _) _
    have b3 : Below W2.heap.size W2 W := by rw [hW]; exact (Below.refl _ _).alloc (Nat.le_refl _) _
    have h3 := C6.new W2 (.int .i64 0) (.int .i64 0) (.int .i64 0) (.int .i64 0) (.slice none 0 0) (.bool false) 57
    rw [← hW] at h3
    rw [e1] at h2
    rw [e2] at h3
    have b13 := b2.trans (b3.mono b2.size)
    exact ⟨⟨b1.trans (b13.mono b1.size), h1.keep b13, h2.keep b3, h3⟩, by rw [hW]; simp [e2]⟩
  have HA : Hid (Calls Try.prog 65 #[.pointer (some ⟨w.heap.size, 0, none⟩), .pointer (some ⟨w.heap.size + 1, 0, none⟩), .int .i64 now] W fun e w' => e = .returned (.int .i64 (turnC s t o l a0 a1 a2 a3 a4 now)) ∧ Below W.heap.size W w') := specAsk_any W w.heap.size (w.heap.size + 1) s t o a cap l a0 a1 a2 a3 a4 now K0.out.1.2.1 K0.out.1.2.2.1 (hi.keep K0.out.1.1)
  have HC : Hid (∀ X, (Below w.heap.size w X ∧ S4 X w.heap.size (.int .i64 s) (.int .i64 t) (.int .i64 o) (.slice a l.length cap) ∧ S5 X (w.heap.size + 1) (.int .i64 a0) (.int .i64 a1) (.int .i64 a2) (.int .i64 a3) (.int .i64 a4) ∧ C6 X (w.heap.size + 2) (.int .i64 0) (.int .i64 0) (.int .i64 0) (.int .i64 0) (.slice none 0 0) (.bool false)) → Calls Try.prog 66 #[.pointer (some ⟨w.heap.size, 0, none⟩)] X fun e w' => CopyR w' X.heap.size s t o l e ∧ Below X.heap.size X w') := fun X hX => specCopy_any X w.heap.size s t o a cap l hl hX.2.1 (hi.keep hX.1)
  have HG : Hid (turnC s t o l a0 a1 a2 a3 a4 now = 0 → Good s t o l a0 a1 a2 a3 a4 now) := good_of
  have H1 : Hid (¬ turnC s t o l a0 a1 a2 a3 a4 now = 0 → allowR s t o l a0 a1 a2 a3 a4 now = (turnC s t o l a0 a1 a2 a3 a4 now, ⟨0, 0, 0, []⟩, false)) := allowR_bad
  have H2 : Hid (turnC s t o l a0 a1 a2 a3 a4 now = 0 → allowR s t o l a0 a1 a2 a3 a4 now = (0, ⟨alS s t o a3 a4 now, t, alO s t o a3 a4 now, l⟩, alB s t o a3 a4 now)) := allowR_ok
  clear hi hW hl
  generalize allowR s t o l a0 a1 a2 a3 a4 now = q at *
  generalize turnC s t o l a0 a1 a2 a3 a4 now = c at *
  obtain ⟨n, hn⟩ : ∃ n, l.length = n := ⟨_, rfl⟩
  have HN : Hid (l.length = n) := hn
  rw [hn] at HW K0 HC ⊢
  clear hn
  go_enter Try.func27, Try.ntmps27
  go_wp2_with fail
  rw [← HW.out]
  refine HA.out.mono ?_
  rintro e w1 ⟨rfl, hb1⟩
  have K1 : Hid ((Below w.heap.size w w1 ∧ S4 w1 w.heap.size (.int .i64 s) (.int .i64 t) (.int .i64 o) (.slice a n cap) ∧ S5 w1 (w.heap.size + 1) (.int .i64 a0) (.int .i64 a1) (.int .i64 a2) (.int .i64 a3) (.int .i64 a4) ∧ C6 w1 (w.heap.size + 2) (.int .i64 0) (.int .i64 0) (.int .i64 0) (.int .i64 0) (.slice none 0 0) (.bool false)) ∧ w.heap.size + 3 ≤ w1.heap.size) := ⟨⟨K0.out.1.1.trans (hb1.mono K0.out.1.1.size), K0.out.1.2.1.keep hb1, K0.out.1.2.2.1.keep hb1, K0.out.1.2.2.2.keep hb1⟩, by have := hb1.size; rw [K0.out.2] at this; exact this⟩
  clear hb1 K0 HW HA
  by_cases hc : c = 0
  rotate_left
  · have HE : Hid (q = (c, ⟨0, 0, 0, []⟩, false)) := H1.out hc
    have n0 : (c != 0) = true := by simpa using hc
    obtain ⟨r0, r1, r2, r3, r4, r5, rf, _⟩ := K1.out.1.2.2.2
    clear H1 H2 HG HC
    go_wp2_with fail
    exact bodyPost_ret (v := .agg #[.int .i64 c, .int .i64 0, .int .i64 0, .int .i64 0, .slice none 0 0, .bool false]) (by simp [results, Try.results27, go_sem, r0, r1, r2, r3, r4, r5]) rfl ⟨AllowRes.mk HE.out rfl (MkNew.nil _ _ _ _), (((((K1.out.1.1.setCell (by simp <;> omega) _).setCell (by simp <;> omega) _).setCell (by simp <;> omega) _).setCell (by simp <;> omega) _).setCell (by simp <;> omega) _).setCell (by simp <;> omega) _⟩
  subst hc
  have HE : Hid (q = (0, ⟨alS s t o a3 a4 now, t, alO s t o a3 a4 now, l⟩, alB s t o a3 a4 now)) := H2.out (by trivial)
  have HG2 : Hid (Good s t o l a0 a1 a2 a3 a4 now) := HG.out (by trivial)
  clear H1 H2 HG
  go_wp2_with fail
  refine (HC.out _ K1.out.1).mono ?_
  rintro e w2 ⟨⟨va, vc, rfl, mv⟩, hb2⟩
  rw [HN.out] at mv ⊢
  obtain ⟨V, hV⟩ : ∃ V, V = w2.alloc (.cells #[.int .i64 s, .int .i64 t, .int .i64 o, .slice va n vc] 51) := ⟨_, rfl⟩
  have HV : Hid (V = w2.alloc (.cells #[.int .i64 s, .int .i64 t, .int .i64 o, .slice va n vc] 51)) := hV
  have aV : Below w2.heap.size w2 V := by rw [hV]; exact (Below.refl _ _).alloc (Nat.le_refl _) _
  have b2 := hb2.trans (aV.mono hb2.size)
  have HL : Hid (Calls Try.prog 67 #[.pointer (some ⟨w2.heap.size, 0, none⟩), .pointer (some ⟨w.heap.size + 1, 0, none⟩), .int .i64 now] V fun e w' => e = .returned (.bool (alB s t o a3 a4 now)) ∧ S4 w' w2.heap.size (.int .i64 (alS s t o a3 a4 now)) (.int .i64 t) (.int .i64 (alO s t o a3 a4 now)) (.slice va n vc) ∧ V.grownBy w' (some w2.heap.size)) := specLetIn_any V w2.heap.size (w.heap.size + 1) s t o (.slice va n vc) a0 a1 a2 a3 a4 now HG2.out.hs ⟨HG2.out.ht.1, HG2.out.ht.2, HG2.out.hnow⟩ HG2.out.ho (by rw [hV]; exact S4.new w2 _ _ _ _ _) (K1.out.1.2.2.1.keep b2)
  have HK2 : Hid (∀ X, V.grownBy X (some w2.heap.size) → Below w.heap.size w X ∧ C6 X (w.heap.size + 2) (.int .i64 0) (.int .i64 0) (.int .i64 0) (.int .i64 0) (.slice none 0 0) (.bool false) ∧ MkNew X w1.heap.size (.slice va n vc) l) := fun X hX => by
    have b3 : Below w2.heap.size w2 X := aV.trans (gbTo hX (Nat.le_refl _) aV.size)
    have b4 := hb2.trans (b3.mono hb2.size)
    exact ⟨K1.out.1.1.trans (b4.mono K1.out.1.1.size), K1.out.1.2.2.2.keep b4, mv.keep b3⟩
  have hup := K1.out.2
  clear hb2 K1 HC mv hV aV b2 HG2
  go_wp2_with fail
  rw [← HV.out]
  refine HL.out.mono ?_
  rintro e w3 ⟨rfl, hS, hgb⟩
  have K3 := hid12 (HK2.out w3 hgb)
  clear HV HL HK2 hgb
  generalize w2.heap.size = X0 at *
  generalize w1.heap.size = X1 at *
  obtain ⟨e0, e1, e2, e3, ef, _⟩ := hS
  obtain ⟨r0, r1, r2, r3, r4, r5, rf, _⟩ := K3.out.2.1
  generalize alS s t o a3 a4 now = zs at *
  generalize alO s t o a3 a4 now = zo at *
  generalize alB s t o a3 a4 now = zb at *
  have HM : Hid (∀ x0 x1 x2 x3 x4 x5, MkNew ((((((w3.setCell ⟨w.heap.size + 2, 0, none⟩ x0).setCell ⟨w.heap.size + 2, 1, none⟩ x1).setCell ⟨w.heap.size + 2, 2, none⟩ x2).setCell ⟨w.heap.size + 2, 3, none⟩ x3).setCell ⟨w.heap.size + 2, 4, none⟩ x4).setCell ⟨w.heap.size + 2, 5, none⟩ x5) w.heap.size (.slice va n vc) l) := fun x0 x1 x2 x3 x4 x5 => by
    refine MkNew.lower ?_ (show w.heap.size ≤ X1 by omega)
    exact (((((K3.out.2.2.gb2 (gbSet _ _ _ _) (by omega)).gb2 (gbSet _ _ _ _) (by omega)).gb2 (gbSet _ _ _ _) (by omega)).gb2 (gbSet _ _ _ _) (by omega)).gb2 (gbSet _ _ _ _) (by omega)).gb2 (gbSet _ _ _ _) (by omega)
  go_wp2_with fail
  exact bodyPost_ret (v := .agg #[.int .i64 0, .int .i64 zs, .int .i64 t, .int .i64 zo, .slice va n vc, .bool zb]) (by simp [results, Try.results27, go_sem, r0, r1, r2, r3, r4, r5]) rfl ⟨AllowRes.mk HE.out HN.out (HM.out _ _ _ _ _ _), (((((K3.out.1.setCell (by simp <;> omega) _).setCell (by simp <;> omega) _).setCell (by simp <;> omega) _).setCell (by simp <;> omega) _).setCell (by simp <;> omega) _).setCell (by simp <;> omega) _⟩
end Go.Proofs.Ytmgidcigihpbeaa
/-
  NoteOutcome, by the model: the marks that it leaves lie in a row of their own.
-/
namespace Go.Proofs.Ytmgidcigihpbeaa
open Go.ChangeShapes Go.WideShapes Go.ChangeAt Go.RowKit Go.Sort
theorem OwnMk.offB {B : Nat} {w w' : World} {base : Nat} {v : Value} {l : List Mk} (h : OwnMk w base v l) (k : w.grownBy w' (Option.some B)) (hB : B < base) : OwnMk w' base v l := World.ownsRow.kept h k (by
  cases e : v.ownBlock with
  | none => exact .inl rfl
  | some q => right; intro e2; have := row_ge h q e; have := Option.some.inj e2; omega)
def NoteTO (w : World) (base B : Nat) (q : Bk) : Prop := ∃ a c, S4 w B (.int .i64 q.s) (.int .i64 q.t) (.int .i64 q.o) (.slice a q.l.length c) ∧ OwnMk w base (.slice a q.l.length c) q.l
set_option maxRecDepth 100000 in
set_option maxHeartbeats 32000000 in
theorem specTurnO_any (w : World) (base B R : Nat) (hBb : B < base) (hbase : base ≤ w.heap.size) (hne : R ≠ B) (s t o : Int) (a : Option Addr) (cap : Nat) (l : List Mk) (a0 a1 a2 a3 a4 now : Int) (good : Bool) (h59 : l.length ≤ 59) (hG : Good s t o l a0 a1 a2 a3 a4 now) (hB : S4 w B (.int .i64 s) (.int .i64 t) (.int .i64 o) (.slice a l.length cap)) (hR : S5 w R (.int .i64 a0) (.int .i64 a1) (.int .i64 a2) (.int .i64 a3) (.int .i64 a4)) (hi : OwnMk w base (.slice a l.length cap) l) :
    Calls Try.prog 74 #[.pointer (some ⟨B, 0, none⟩), .pointer (some ⟨R, 0, none⟩), .int .i64 now, .bool good] w fun e w' => e = .returned (.tuple #[]) ∧ NoteTO w' base B (noteV s t o l a0 a1 a2 now good) ∧ w.grownBy w' (some B) := by
  have HOI : Hid (OwnMk w base (.slice a l.length cap) l) := hi
  have HBb : Hid (B < base) := hBb
  have HBS : Hid (base ≤ w.heap.size) := hbase
  clear hBb hbase
  have HSB : Hid (S4 w B (.int .i64 s) (.int .i64 t) (.int .i64 o) (.slice a l.length cap)) := hB
  rcases hG.hs with rfl | rfl | rfl
  rotate_left
  · have hl := hG.hl0 (by decide)
    subst hl
    have HE : Hid (noteV 1 t o [] a0 a1 a2 now good = ⟨1, t, o, []⟩) := by show _ = _; simp [noteV]
    rw [HE.out]
    clear hG
    obtain ⟨c0, c1, c2, c3, fr, _⟩ := hB
    go_enter Try.func74, Try.ntmps74
    go_wp2_with fail
    exact bodyPost_ret (v := .tuple #[]) (results_none rfl _ _ _) rfl ⟨rfl, ⟨a, cap, HSB.out, HOI.out⟩, gbRefl _ _⟩
  · have hl := hG.hl0 (by decide)
    subst hl
    clear hG
    obtain ⟨c0, c1, c2, c3, fr, _⟩ := hB
    have f0 := fr 0
    have f1 := fr 1
    have f2 := fr 2
    cases good
    · have HE : Hid (noteV 2 t o [] a0 a1 a2 now false = ⟨1, now, 0, []⟩) := by show _ = _; simp [noteV]
      rw [HE.out]
      go_enter Try.func74, Try.ntmps74
      go_wp2_with fail
      exact bodyPost_ret (v := .tuple #[]) (results_none rfl _ _ _) rfl ⟨rfl, ⟨a, cap, (((HSB.out.set0 _).set0 _).set1 _).set2 _, (((HOI.out.offB (gbSet _ _ _ _) HBb.out).offB (gbSet _ _ _ _) HBb.out).offB (gbSet _ _ _ _) HBb.out).offB (gbSet _ _ _ _) HBb.out⟩, gbTrans (gbTrans (gbTrans (gbSet _ _ _ _) (gbSet _ _ _ _)) (gbSet _ _ _ _)) (gbSet _ _ _ _)⟩
    · have HE : Hid (noteV 2 t o [] a0 a1 a2 now true = ⟨0, t, 0, []⟩) := by show _ = _; simp [noteV]
      rw [HE.out]
      go_enter Try.func74, Try.ntmps74
      go_wp2_with fail
      exact bodyPost_ret (v := .tuple #[]) (results_none rfl _ _ _) rfl ⟨rfl, ⟨a, cap, (HSB.out.set0 _).set2 _, (HOI.out.offB (gbSet _ _ _ _) HBb.out).offB (gbSet _ _ _ _) HBb.out⟩, gbTrans (gbSet _ _ _ _) (gbSet _ _ _ _)⟩
  have HNR : Hid (R ≠ B) := hne
  have HBL : Hid (B < w.heap.size) := hB.lt
  have HRL : Hid (R < w.heap.size) := hR.lt
  have HR2 : Hid (1 ≤ a2 ∧ a2 ≤ 1000) := hG.hr2
  have HSR : Hid (S5 w R (.int .i64 a0) (.int .i64 a1) (.int .i64 a2) (.int .i64 a3) (.int .i64 a4)) := hR
  have HI : Hid (MkIn w a l) := (by obtain ⟨x, y, e, _, hin⟩ := hi.in; simp only [Value.slice.injEq] at e; rw [e.1]; exact hin)
  have HTS : Hid (∀ (i : Nat) x, l[i]? = some x → 0 ≤ x.tm ∧ x.tm ≤ 1000000000000000) := hG.hts
  have HAD : Hid (∀ x w, 0 ≤ x → x ≤ 1000000000000000 → Calls Try.prog 49 #[.int .i64 x, .int .i64 a0] w fun r w' => r = .returned (.int .i64 (addT x a0)) ∧ Below w.heap.size w w') := fun x w h1 h2 => (l1Add_all x a0 ⟨h1, h2⟩ ⟨by have := hG.hr0; omega, by have := hG.hr0; omega⟩ w).mono fun _ _ ⟨e, e2⟩ => ⟨e, by rw [e2]; exact Below.refl _ _⟩
  have hl := h59
  obtain ⟨c0, c1, c2, c3, fr, _⟩ := hB
  have HO0 : Hid (OwnMk (w.alloc (.cells #[] 112)) w.heap.size (.slice (some ⟨w.heap.size, 0, none⟩) 0 0) []) := OwnMk.made0 w w.heap.size (Nat.le_refl _)
  have HB0 : Hid (Below w.heap.size w (w.alloc (.cells #[] 112))) := (Below.refl _ _).alloc (Nat.le_refl _) _
  obtain ⟨nl, hnl⟩ : ∃ nl, noteL l a0 now good = nl := ⟨_, rfl⟩
  have HNL : Hid (nl = if 60 < (cntL a0 now l ++ [(⟨now, good⟩ : Mk)]).length then (cntL a0 now l ++ [(⟨now, good⟩ : Mk)]).drop 1 else cntL a0 now l ++ [(⟨now, good⟩ : Mk)]) := by show _ = _; rw [← hnl]; rfl
  have HNV1 : Hid (tooB nl a1 a2 = true → noteV 0 t o l a0 a1 a2 now good = ⟨1, now, o, []⟩) := fun h => by rw [← hnl] at h; simp [noteV, h]
  have HNV0 : Hid (tooB nl a1 a2 = false → noteV 0 t o l a0 a1 a2 now good = ⟨0, t, o, nl⟩) := fun h => by rw [← hnl] at h ⊢; simp [noteV, h]
  clear hR hi hG hne hnl HOI HBb h59
  generalize noteV 0 t o l a0 a1 a2 now good = nv at *
  obtain ⟨n, hn⟩ : ∃ n, l.length = n := ⟨_, rfl⟩
  have HN : Hid (l.length = n) := hn
  rw [hn] at hl c3 HSB
  clear hn
  go_enter Try.func74, Try.ntmps74
  go_wp2_with fail
  go_loopw [8, 9] (fun v i wr => ∃ k : Nat, k ≤ n ∧ i = .int .i64 k ∧ OwnMk wr w.heap.size v (cntL a0 now (l.take k)) ∧ Below w.heap.size w wr) (fun _ i _ => n - (intOf i).toNat)
  case atStart => exact ⟨0, Nat.zero_le _, rfl, HO0.out, HB0.out⟩
  case round =>
    obtain ⟨k, hk, rfl, ho, hb⟩ := hrel
    clear c0 c1 c2 c3 fr
    have HKr : Hid (S4 wr B (.int .i64 0) (.int .i64 t) (.int .i64 o) (.slice a n cap) ∧ S5 wr R (.int .i64 a0) (.int .i64 a1) (.int .i64 a2) (.int .i64 a3) (.int .i64 a4)) := ⟨HSB.out.keep hb, HSR.out.keep hb⟩
    obtain ⟨c0, c1, c2, c3, fr, _⟩ := HKr.out.1
    obtain ⟨d0, d1, d2, d3, d4, fd, _⟩ := HKr.out.2
    have hbs := hb.size
    by_cases hlt : k < n
    · obtain ⟨r, hr⟩ : ∃ r, l[k]? = some r := ⟨l[k]'(by have := HN.out; omega), List.getElem?_eq_getElem _⟩
      rcases (HI.out.keep hb) with h | ⟨b, off, rfl, hat⟩
      · subst h; simp at hr
      obtain ⟨p0, p1⟩ := hat k r hr
      obtain ⟨t0, t1⟩ := HTS.out k r hr
      have cA : ∀ d os, Calls Try.prog 49 #[.int .i64 r.tm, .int .i64 a0] (grow (redrawn wr d) os) fun e w'' => e = .returned (.int .i64 (addT r.tm a0)) ∧ ∃ p : Regrown, w'' = grow (redrawn wr p.d) p.os := fun d os => Calls.regrown_of (HAD.out _ _ t0 t1)
      have HX := cntL_take a0 now hr
      have hcl : (cntL a0 now (l.take k)).length ≤ 60 := by have := cntL_le a0 now (l.take k); have := List.length_take_le k l; have := HN.out; simp at *; omega
      have P0 := cell_regrown p0
      have C3 := cell_regrown c3
      have D0 := cell_regrown d0
      have HP : Hid (wr.cell? ⟨b, off + k * 2, none⟩ = some (.int .i64 r.tm) ∧ wr.cell? ⟨b, off + k * 2 + 1, none⟩ = some (.bool r.gd)) := ⟨p0, p1⟩
      have HO : Hid (OwnMk wr w.heap.size u8 (cntL a0 now (l.take k)) ∧ Below w.heap.size w wr) := ⟨ho, hb⟩
      have g0 : (0 : Int) ≤ k := by omega
      have gk : (k : Int) < n := by omega
      have HRR : Hid ((⟨r.tm, r.gd⟩ : Mk) = r) := rfl
      clear hr hat ho hb HI p0 p1 HNL HNV1 HNV0 HO0 HB0
      cases hc : cntB a0 now r
      · rw [hc] at HX
        have HF : Hid (cntL a0 now (l.take (k + 1)) = cntL a0 now (l.take k)) := by show _ = _; rw [HX]; simp
        have gx : ¬ now < addT r.tm a0 := by simpa [cntB] using hc
        have gd : decide (now < addT r.tm a0) = false := by simpa using gx
        clear HX hc HRR
        generalize addT r.tm a0 = z at *
        generalize r.tm = rt at *
        generalize r.gd = rg at *
        go_wp2_with fail
        refine wp_region_quiet_below (by kernel_rfl) (by kernel_rfl) ?_
        repeat (go_big_quiet_step ((go_at_call 49; exact cA _ _)))
        refine wpQuiet_nil ?_
        intro wq hwq
        obtain ⟨⟨d, os⟩, hd⟩ := hwq
        have bq : Below wr.heap.size wr wq := by rw [hd]; exact below_regrown wr d os
        have HQ : Hid (OwnMk wq w.heap.size u8 (cntL a0 now (l.take k)) ∧ Below w.heap.size w wq) := ⟨HO.out.1.below bq, HO.out.2.trans (bq.mono HO.out.2.size)⟩
        clear P0 C3 D0 cA hd bq HO
        go_wp2_with fail
        go_roundw
        case rel => exact ⟨k + 1, by omega, by go_num, by rw [HF.out]; exact HQ.out.1, HQ.out.2⟩
        case measure => simp [intOf]; omega
      · rw [hc] at HX
        have HF : Hid (cntL a0 now (l.take (k + 1)) = cntL a0 now (l.take k) ++ [(⟨r.tm, r.gd⟩ : Mk)]) := by show _ = _; rw [HX]; simp
        have gx : now < addT r.tm a0 := by simpa [cntB] using hc
        have gd : decide (now < addT r.tm a0) = true := by simpa using gx
        clear HX hc HRR
        generalize addT r.tm a0 = z at *
        generalize r.tm = rt at *
        generalize r.gd = rg at *
        generalize cntL a0 now (l.take k) = Lk at *
        go_wp2_with fail
        refine wp_region_quiet_below (by kernel_rfl) (by kernel_rfl) ?_
        repeat (go_big_quiet_step ((go_at_call 49; exact cA _ _)))
        refine wpQuiet_nil ?_
        intro wq hwq
        obtain ⟨⟨d, os⟩, hd⟩ := hwq
        have bq : Below wr.heap.size wr wq := by rw [hd]; exact below_regrown wr d os
        have HQ : Hid (OwnMk wq w.heap.size u8 Lk ∧ Below w.heap.size w wq) := ⟨HO.out.1.below bq, HO.out.2.trans (bq.mono HO.out.2.size)⟩
        have hqs : w.heap.size ≤ wq.heap.size := HQ.out.2.size
        have z3 := cell_keep10 c3 bq
        have z0 := cell_keep10 HP.out.1 bq
        have z1 := cell_keep10 HP.out.2 bq
        clear P0 C3 D0 cA hd bq HO c0 c1 c2 c3 fr d0 d1 d2 d3 d4 fd HP
        go_wp2_with (at_builtin; refine wpList_append1Mk wq rfl (.tmp 59) (.tmp 67) rfl w.heap.size _ Lk ⟨rt, rg⟩ rfl (by simp [go_sem]) HQ.out.1 (by omega) hqs ?_; intro v4 w4 ho4 hb4 hg4)
        go_roundw
        case rel => exact ⟨k + 1, by omega, by go_num, by rw [HF.out]; exact ho4, HQ.out.2.trans hb4⟩
        case measure => simp [intOf]; omega
    · have HF : Hid (cntL a0 now l = cntL a0 now (l.take k)) := by
        show _ = _
        rw [List.take_of_length_le (by have := HN.out; omega)]
      have HO : Hid (OwnMk wr w.heap.size u8 (cntL a0 now l) ∧ Below w.heap.size w wr) := ⟨by rw [HF.out]; exact ho, hb⟩
      have hcl : (cntL a0 now l).length ≤ 59 := by have := cntL_le a0 now l; have := HN.out; omega
      clear ho hb HF HI HTS HAD HO0 HB0 HSR HSB d0 d1 d2 d3 d4 fd
      generalize cntL a0 now l = Lc at *
      go_upto_region 15 with (at_builtin; refine wpList_append1Mk wr rfl (.tmp 69) (.tmp 73) rfl w.heap.size _ Lc (⟨now, good⟩ : Mk) rfl (by simp [go_sem]) HO.out.1 (by omega) hbs ?_; intro v4 V ho4 hb4 hg4; have hlen : (Lc ++ [(⟨now, good⟩ : Mk)]).length = Lc.length + 1 := (by simp); have hnew := ho4; obtain ⟨g, vc, rfl, hvc⟩ := ho4.some (by omega); rw [hlen] at hnew hvc HNL ⊢; obtain ⟨cn, hcn⟩ : ∃ n, Lc.length = n := ⟨_, rfl⟩; rw [hcn] at hnew hvc hlen hcl HNL ⊢; have HX : Hid (OwnMk V w.heap.size (.slice (some ⟨g, 0, none⟩) (cn + 1) vc) (Lc ++ [(⟨now, good⟩ : Mk)]) ∧ Below w.heap.size wr V) := ⟨hnew, hb4⟩; have HML : Hid ((Lc ++ [(⟨now, good⟩ : Mk)]).length = cn + 1) := hlen; clear hb4 hg4 hnew hlen hcn c0 c1 c2 c3 fr)
      have HKV : Hid (S4 V B (.int .i64 0) (.int .i64 t) (.int .i64 o) (.slice a n cap) ∧ S5 V R (.int .i64 a0) (.int .i64 a1) (.int .i64 a2) (.int .i64 a3) (.int .i64 a4) ∧ w.grownBy V (some B)) := ⟨HKr.out.1.low HX.out.2 HBL.out, HKr.out.2.low HX.out.2 HRL.out, gbBelow _ (HO.out.2.trans HX.out.2)⟩
      clear HKr HO
      obtain ⟨c0, c1, c2, c3, fr, _⟩ := HKV.out.1
      have f3 := fr 3
      have hbig : ¬ 60 < cn + 1 := by omega
      have HNE : Hid (nl = Lc ++ [(⟨now, good⟩ : Mk)]) := by show _ = _; rw [HNL.out, if_neg hbig]
      have HND : Hid (OwnMk V w.heap.size (.slice (some ⟨g, 0, none⟩) (cn + 1) vc) nl) := by rw [HNE.out]; exact HX.out.1
      have HLN : Hid (nl.length = cn + 1) := by show _ = _; rw [HNE.out, HML.out]
      have hs1 : ¬ (60 : Int) < ((cn + 1 : Nat) : Int) := by omega
      clear HNL HNE
      obtain ⟨V1, hV1⟩ : ∃ V1, V1 = V.setCell ⟨B, 3, none⟩ (.slice (some ⟨g, 0, none⟩) (cn + 1) vc) := ⟨_, rfl⟩
      have HV1 : Hid (V1 = V.setCell ⟨B, 3, none⟩ (.slice (some ⟨g, 0, none⟩) (cn + 1) vc)) := hV1
      have g1 : V.grownBy V1 (some B) := by rw [hV1]; exact gbSet _ _ _ _
      have HT1 : Hid (S4 V1 B (.int .i64 0) (.int .i64 t) (.int .i64 o) (.slice (some ⟨g, 0, none⟩) (cn + 1) vc) ∧ S5 V1 R (.int .i64 a0) (.int .i64 a1) (.int .i64 a2) (.int .i64 a3) (.int .i64 a4) ∧ OwnMk V1 w.heap.size (.slice (some ⟨g, 0, none⟩) (cn + 1) vc) nl ∧ w.grownBy V1 (some B)) := by
        refine ⟨?_, HKV.out.2.1.gb g1 HNR.out, HND.out.offB g1 HBL.out, gbTrans HKV.out.2.2 g1⟩
        rw [hV1]; exact HKV.out.1.set3 _
      have hnl61 : nl.length ≤ 61 := by rw [HLN.out]; omega
      have mr := mul_room HR2.out (show nl.length ≤ 100 by omega)
      have bl := badM_le nl
      have x1 : IntKind.i64.wrap (1000 * (badM nl : Int)) = 1000 * (badM nl : Int) := by rw [IntKind.wrap_i64]; omega
      have x2 : IntKind.i64.wrap (a2 * ((cn : Int) + 1)) = a2 * ((cn : Int) + 1) := by rw [HLN.out] at mr; have mr2 : 0 ≤ a2 * ((cn : Int) + 1) ∧ a2 * ((cn : Int) + 1) ≤ 100000 := mr; rw [IntKind.wrap_i64]; omega
      have cB : ∀ d os, Calls Try.prog 76 #[.slice (some ⟨g, 0, none⟩) (cn + 1) vc] (grow (redrawn V1 d) os) fun e w'' => e = .returned (.int .i64 (badM nl : Int)) ∧ ∃ p : Regrown, w'' = grow (redrawn V1 p.d) p.os := fun d os => Calls.regrown_of (by
        have := specBad_any (grow (redrawn V1 d) os) (some ⟨g, 0, none⟩) vc nl (by omega) (by obtain ⟨x, y, e, _, hin⟩ := (HT1.out.2.2.1.below (below_regrown V1 d os)).in; simp only [Value.slice.injEq] at e; rw [e.1]; exact hin)
        rw [HLN.out] at this
        exact this)
      have D1 := cell_regrown HT1.out.2.1.c1
      have D2 := cell_regrown HT1.out.2.1.c2
      have HTT : Hid (tooB nl a1 a2 = (decide (a1 ≤ ((cn : Int) + 1)) && decide (a2 * ((cn : Int) + 1) ≤ 1000 * (badM nl : Int)))) := by show _ = _; rw [tooB, HLN.out]; rfl
      have y3 := HKV.out.1.c3
      have yf := HKV.out.1.fr 3
      generalize (badM nl : Int) = bm at *
      clear hV1 g1 mr bl hnl61
      by_cases g1 : a1 ≤ ((cn : Int) + 1)
      · have d1 : decide (a1 ≤ ((cn : Int) + 1)) = true := by simpa using g1
        by_cases g2 : a2 * ((cn : Int) + 1) ≤ 1000 * bm
        · have d2 : decide (a2 * ((cn : Int) + 1) ≤ 1000 * bm) = true := by simpa using g2
          have HN2 : Hid (nv = ⟨1, now, o, []⟩) := HNV1.out (by rw [HTT.out, d1, d2]; rfl)
          clear HTT HNV1 HNV0
          go_wp2_with fail
          rw [← HV1.out]
          refine wp_region_quiet_below (by kernel_rfl) (by kernel_rfl) ?_
          repeat (go_big_quiet_step ((go_at_call 76; exact cB _ _)))
          refine wpQuiet_nil ?_
          intro wq hwq
          obtain ⟨⟨d, os⟩, hd⟩ := hwq
          have b6 : Below V1.heap.size V1 wq := by rw [hd]; exact below_regrown V1 d os
          have HT6 : Hid (S4 wq B (.int .i64 0) (.int .i64 t) (.int .i64 o) (.slice (some ⟨g, 0, none⟩) (cn + 1) vc) ∧ OwnMk wq w.heap.size (.slice (some ⟨g, 0, none⟩) (cn + 1) vc) nl ∧ w.grownBy wq (some B)) := ⟨HT1.out.1.keep b6, HT1.out.2.2.1.below b6, gbTrans HT1.out.2.2.2 (gbBelow _ b6)⟩
          clear D1 D2 cB hd b6 HT1 HV1
          obtain ⟨q0, q1, q2, q3, qf, _⟩ := HT6.out.1
          have qf0 := qf 0
          have qf1 := qf 1
          have qf3 := qf 3
          clear qf
          go_wp2_with fail
          exact bodyPost_end (v := .tuple #[]) (by simp [results, Try.results74, go_sem]) rfl ⟨rfl, ⟨none, 0, by rw [HN2.out]; exact ((HT6.out.1.set0 _).set1 _).set3 _, by rw [HN2.out]; exact OwnMk.none0 _ _⟩, gbTrans (gbTrans (gbTrans HT6.out.2.2 (gbSet _ _ _ _)) (gbSet _ _ _ _)) (gbSet _ _ _ _)⟩
        · have d2 : decide (a2 * ((cn : Int) + 1) ≤ 1000 * bm) = false := by simpa using g2
          have HN2 : Hid (nv = ⟨0, t, o, nl⟩) := HNV0.out (by rw [HTT.out, d2]; simp)
          clear HTT HNV1 HNV0
          go_wp2_with fail
          rw [← HV1.out]
          refine wp_region_quiet_below (by kernel_rfl) (by kernel_rfl) ?_
          repeat (go_big_quiet_step ((go_at_call 76; exact cB _ _)))
          refine wpQuiet_nil ?_
          intro wq hwq
          obtain ⟨⟨d, os⟩, hd⟩ := hwq
          have b6 : Below V1.heap.size V1 wq := by rw [hd]; exact below_regrown V1 d os
          have HT6 : Hid (S4 wq B (.int .i64 0) (.int .i64 t) (.int .i64 o) (.slice (some ⟨g, 0, none⟩) (cn + 1) vc) ∧ OwnMk wq w.heap.size (.slice (some ⟨g, 0, none⟩) (cn + 1) vc) nl ∧ w.grownBy wq (some B)) := ⟨HT1.out.1.keep b6, HT1.out.2.2.1.below b6, gbTrans HT1.out.2.2.2 (gbBelow _ b6)⟩
          clear D1 D2 cB hd b6 HT1 HV1
          go_wp2_with fail
          exact bodyPost_end (v := .tuple #[]) (by simp [results, Try.results74, go_sem]) rfl ⟨rfl, ⟨some ⟨g, 0, none⟩, vc, by rw [HN2.out, HLN.out]; exact HT6.out.1, by rw [HN2.out, HLN.out]; exact HT6.out.2.1.lower HBS.out⟩, HT6.out.2.2⟩
      · have d1 : decide (a1 ≤ ((cn : Int) + 1)) = false := by simpa using g1
        have HN2 : Hid (nv = ⟨0, t, o, nl⟩) := HNV0.out (by rw [HTT.out, d1]; simp)
        clear HTT HNV1 HNV0
        go_wp2_with fail
        rw [← HV1.out]
        refine wp_region_quiet_below (by kernel_rfl) (by kernel_rfl) ?_
        repeat (go_big_quiet_step ((go_at_call 76; exact cB _ _)))
        refine wpQuiet_nil ?_
        intro wq hwq
        obtain ⟨⟨d, os⟩, hd⟩ := hwq
        have b6 : Below V1.heap.size V1 wq := by rw [hd]; exact below_regrown V1 d os
        have HT6 : Hid (S4 wq B (.int .i64 0) (.int .i64 t) (.int .i64 o) (.slice (some ⟨g, 0, none⟩) (cn + 1) vc) ∧ OwnMk wq w.heap.size (.slice (some ⟨g, 0, none⟩) (cn + 1) vc) nl ∧ w.grownBy wq (some B)) := ⟨HT1.out.1.keep b6, HT1.out.2.2.1.below b6, gbTrans HT1.out.2.2.2 (gbBelow _ b6)⟩
        clear D1 D2 cB hd b6 HT1 HV1
        go_wp2_with fail
        exact bodyPost_end (v := .tuple #[]) (by simp [results, Try.results74, go_sem]) rfl ⟨rfl, ⟨some ⟨g, 0, none⟩, vc, by rw [HN2.out, HLN.out]; exact HT6.out.1, by rw [HN2.out, HLN.out]; exact HT6.out.2.1.lower HBS.out⟩, HT6.out.2.2⟩
end Go.Proofs.Ytmgidcigihpbeaa
/-
  A breaker that is right stays so when it is asked, and when an outcome is noted.
-/
namespace Go.Proofs.Ytmgidcigihpbeaa
theorem Good.later {s t o : Int} {l : List Mk} {a0 a1 a2 a3 a4 now now2 : Int} (g : Good s t o l a0 a1 a2 a3 a4 now) (h : now ≤ now2) (h2 : now2 ≤ 1000000000000000) : Good s t o l a0 a1 a2 a3 a4 now2 :=
  ⟨g.hs, ⟨g.ht.1, Int.le_trans g.ht.2 h⟩, g.ho, h2, g.hn, g.hts, g.hl0, g.ho0, g.hr0, g.hr1, g.hr2, g.hr3, g.hr4⟩
theorem Good.allow {s t o : Int} {l : List Mk} {a0 a1 a2 a3 a4 now : Int} (g : Good s t o l a0 a1 a2 a3 a4 now) : Good (alS s t o a3 a4 now) t (alO s t o a3 a4 now) l a0 a1 a2 a3 a4 now := by
  have ho := g.ho
  have h4 := g.hr4
  rcases g.hs with rfl | rfl | rfl
  · exact ⟨g.hs, g.ht, g.ho, g.hnow, g.hn, g.hts, g.hl0, g.ho0, g.hr0, g.hr1, g.hr2, g.hr3, g.hr4⟩
  · have e := g.hl0 (by decide)
    have z := g.ho0 (by decide)
    subst e
    subst z
    by_cases hx : now - t < a3
    · have e1 : alS 1 t 0 a3 a4 now = 1 := by simp [alS, alB, hx]
      have e2 : alO 1 t 0 a3 a4 now = 0 := by simp [alO, alB, hx]
      rw [e1, e2]; exact g
    · have e1 : alS 1 t 0 a3 a4 now = 2 := by simp [alS, alB, hx]
      have e2 : alO 1 t 0 a3 a4 now = 1 := by simp [alO, alB, hx]
      rw [e1, e2]
      exact ⟨by omega, g.ht, by omega, g.hnow, g.hn, g.hts, fun _ => rfl, fun h => absurd rfl h, g.hr0, g.hr1, g.hr2, g.hr3, g.hr4⟩
  · have e := g.hl0 (by decide)
    subst e
    have e1 : alS 2 t o a3 a4 now = 2 := by simp [alS]
    rw [e1]
    by_cases hx : a4 ≤ o
    · have e2 : alO 2 t o a3 a4 now = o := by simp [alO, alB, hx]
      rw [e2]; exact g
    · have e2 : alO 2 t o a3 a4 now = o + 1 := by simp [alO, alB, hx]
      rw [e2]
      exact ⟨by omega, g.ht, by omega, g.hnow, g.hn, g.hts, fun _ => rfl, fun h => absurd rfl h, g.hr0, g.hr1, g.hr2, g.hr3, g.hr4⟩
theorem noteL_le (l : List Mk) (a0 now : Int) (good : Bool) : (noteL l a0 now good).length ≤ l.length + 1 := by
  have h := List.length_filter_le (cntB a0 now) l
  unfold noteL cntL
  split
  · simp; omega
  · simp; omega
theorem noteL_mem {l : List Mk} {a0 now : Int} {good : Bool} {x : Mk} (h : x ∈ noteL l a0 now good) : x ∈ l ∨ x = ⟨now, good⟩ := by
  have hx : x ∈ cntL a0 now l ++ [(⟨now, good⟩ : Mk)] := by
    unfold noteL at h
    split at h
    · exact List.mem_of_mem_drop h
    · exact h
  rcases List.mem_append.1 hx with h | h
  · exact .inl (List.mem_filter.1 h).1
  · exact .inr (by simpa using h)
theorem Good.note {s t o : Int} {l : List Mk} {a0 a1 a2 a3 a4 now : Int} (g : Good s t o l a0 a1 a2 a3 a4 now) (good : Bool) (hl : l.length ≤ 59) : Good (noteV s t o l a0 a1 a2 now good).s (noteV s t o l a0 a1 a2 now good).t (noteV s t o l a0 a1 a2 now good).o (noteV s t o l a0 a1 a2 now good).l a0 a1 a2 a3 a4 now ∧ (noteV s t o l a0 a1 a2 now good).l.length ≤ l.length + 1 := by
  have hnow : 0 ≤ now := by have := g.ht; omega
  have htt := g.ht
  rcases g.hs with rfl | rfl | rfl
  · have z := g.ho0 (by decide)
    subst z
    unfold noteV
    simp only [show ¬ (0 : Int) = 1 by decide, show ¬ (0 : Int) = 2 by decide, if_false]
    split
    · exact ⟨⟨by simp, by simp; omega, by simp, g.hnow, by simp, by simp, fun _ => rfl, fun _ => rfl, g.hr0, g.hr1, g.hr2, g.hr3, g.hr4⟩, by simp⟩
    · have hle := noteL_le l a0 now good
      refine ⟨⟨by simp, g.ht, by simp, g.hnow, by simp only []; omega, fun i x hx => ?_, fun h => absurd rfl h, fun _ => rfl, g.hr0, g.hr1, g.hr2, g.hr3, g.hr4⟩, hle⟩
      rcases noteL_mem (List.mem_of_getElem? hx) with h | h
      · obtain ⟨j, hj⟩ := List.getElem?_of_mem h
        exact g.hts j x hj
      · subst h; exact ⟨hnow, g.hnow⟩
  · have e := g.hl0 (by decide)
    subst e
    simp only [noteV, if_true]
    exact ⟨g, by simp⟩
  · have e := g.hl0 (by decide)
    subst e
    cases good
    · simp only [noteV]
      exact ⟨⟨by simp, by simp; omega, by simp, g.hnow, by simp, by simp, fun _ => by simp, fun _ => by simp, g.hr0, g.hr1, g.hr2, g.hr3, g.hr4⟩, by simp⟩
    · simp only [noteV]
      exact ⟨⟨by simp, by simpa using g.ht, by simp, g.hnow, by simp, by simp, fun h => by simp at h ⊢, fun _ => by simp, g.hr0, g.hr1, g.hr2, g.hr3, g.hr4⟩, by simp⟩
end Go.Proofs.Ytmgidcigihpbeaa
/-
  The draw of a breaker that some happened to.
-/
namespace Go.Proofs.Ytmgidcigihpbeaa
open Go.ChangeShapes Go.WideShapes Go.ChangeAt Go.RowKit Go.Sort
structure RulOk (a0 a1 a2 a3 a4 : Int) : Prop where
  h0 : 1 ≤ a0 ∧ a0 ≤ 1000000
  h1 : 1 ≤ a1 ∧ a1 ≤ 50
  h2 : 1 ≤ a2 ∧ a2 ≤ 1000
  h3 : 0 ≤ a3 ∧ a3 ≤ 1000000
  h4 : 1 ≤ a4 ∧ a4 ≤ 5
theorem rulQ {p : Prop} (h : p) : Hid p := h
theorem rulOk {a0 a1 a2 a3 a4 : Int} (q0 : a0 ∈ [(1000 : Int), 5000, 300]) (q1 : a1 ∈ [(1 : Int), 2, 3, 5]) (q2 : a2 ∈ [(500 : Int), 500, 1000, 1, 300]) (q3 : a3 ∈ [(0 : Int), 500, 2000]) (q4 : a4 ∈ [(1 : Int), 1, 2, 5]) : RulOk a0 a1 a2 a3 a4 := by
  simp only [List.mem_cons, List.not_mem_nil, or_false] at q0 q1 q2 q3 q4
  exact ⟨by omega, by omega, by omega, by omega, by omega⟩
set_option maxRecDepth 100000 in
set_option maxHeartbeats 4000000 in
theorem l10RulesR_any (w : World) (B : Nat) (a : Option Addr) (len cap k : Nat) (hs : Src w B a len cap k) (hk : k ≤ 900) (hl2 : len ≤ 1048577) :
    Calls Try.prog 85 #[.pointer (some ⟨B, 0, none⟩)] w fun e w' => (∃ a0 a1 a2 a3 a4 : Int, e = .returned (.agg #[.int .i64 a0, .int .i64 a1, .int .i64 a2, .int .i64 a3, .int .i64 a4]) ∧ RulOk a0 a1 a2 a3 a4) ∧ Src w' B a len cap (k + 5) ∧ Below B w w' ∧ Apart B w w' := by
  have hlt := hs.lt
  obtain ⟨W, hW⟩ : ∃ W, W = w.alloc (.cells #[.int .i64 0, .int .i64 0, .int .i64 0, .int .i64 0, .int .i64 0] 53) := ⟨_, rfl⟩
  have HW := hid12 hW
  have HS0 : Hid (Src W B a len cap (k)) := by show Src _ _ _ _ _ _; rw [hW]; exact hs.alloc _
  have HV : Hid (Below B w W ∧ Apart B w W) := by rw [hW]; exact ⟨(Below.refl _ _).alloc (Nat.le_of_lt hlt) _, Apart.alloc _ _ _⟩
  have HM : Hid (C5 W w.heap.size (.int .i64 0) (.int .i64 0) (.int .i64 0) (.int .i64 0) (.int .i64 0)) := by show C5 _ _ _ _ _ _ _; rw [hW]; exact C5.new w _ _ _ _ _ _
  have HA0 : Hid (Below B W W ∧ Apart B W W) := ⟨Below.refl _ _, Apart.refl _ _⟩
  clear hs hW
  go_enter Try.func85, Try.ntmps85
  go_upto_region 1 with fail
  rw [← HW.out]
  clear HW
  go_wp2_with fail
  refine (l1Pick_a _ B a len cap (k + 0) HS0.out [1000, 5000, 300] 3 rfl (by omega) (by omega) (by omega) hl2).mono ?_
  rintro r w1 ⟨⟨a0, q0, rfl⟩, hs1, hb1, ha1⟩
  have HQ0 := rulQ q0
  clear q0
  have HS1 : Hid (Src w1 B a len cap (k + 1)) := hs1
  have HA1 : Hid (Below B W w1 ∧ Apart B W w1) := ⟨HA0.out.1.trans hb1, HA0.out.2.trans ha1⟩
  clear hs1 hb1 ha1 HS0 HA0
  go_wp2_with fail
  refine (l1Pick_a _ B a len cap (k + 1) HS1.out [1, 2, 3, 5] 4 rfl (by omega) (by omega) (by omega) hl2).mono ?_
  rintro r w2 ⟨⟨a1, q1, rfl⟩, hs1, hb1, ha1⟩
  have HQ1 := rulQ q1
  clear q1
  have HS2 : Hid (Src w2 B a len cap (k + 2)) := hs1
  have HA2 : Hid (Below B W w2 ∧ Apart B W w2) := ⟨HA1.out.1.trans hb1, HA1.out.2.trans ha1⟩
  clear hs1 hb1 ha1 HS1 HA1
  go_wp2_with fail
  refine (l1Pick_a _ B a len cap (k + 2) HS2.out [500, 500, 1000, 1, 300] 5 rfl (by omega) (by omega) (by omega) hl2).mono ?_
  rintro r w3 ⟨⟨a2, q2, rfl⟩, hs1, hb1, ha1⟩
  have HQ2 := rulQ q2
  clear q2
  have HS3 : Hid (Src w3 B a len cap (k + 3)) := hs1
  have HA3 : Hid (Below B W w3 ∧ Apart B W w3) := ⟨HA2.out.1.trans hb1, HA2.out.2.trans ha1⟩
  clear hs1 hb1 ha1 HS2 HA2
  go_wp2_with fail
  refine (l1Pick_a _ B a len cap (k + 3) HS3.out [0, 500, 2000] 3 rfl (by omega) (by omega) (by omega) hl2).mono ?_
  rintro r w4 ⟨⟨a3, q3, rfl⟩, hs1, hb1, ha1⟩
  have HQ3 := rulQ q3
  clear q3
  have HS4 : Hid (Src w4 B a len cap (k + 4)) := hs1
  have HA4 : Hid (Below B W w4 ∧ Apart B W w4) := ⟨HA3.out.1.trans hb1, HA3.out.2.trans ha1⟩
  clear hs1 hb1 ha1 HS3 HA3
  go_wp2_with fail
  refine (l1Pick_a _ B a len cap (k + 4) HS4.out [1, 1, 2, 5] 4 rfl (by omega) (by omega) (by omega) hl2).mono ?_
  rintro r w5 ⟨⟨a4, q4, rfl⟩, hs1, hb1, ha1⟩
  have HQ4 := rulQ q4
  clear q4
  have HS5 : Hid (Src w5 B a len cap (k + 5)) := hs1
  have HA5 : Hid (Below B W w5 ∧ Apart B W w5) := ⟨HA4.out.1.trans hb1, HA4.out.2.trans ha1⟩
  clear hs1 hb1 ha1 HS4 HA4
  obtain ⟨r0, r1, r2, r3, r4, rf, _⟩ := HM.out.apart HA5.out.2 (by omega)
  go_wp2_with fail
  exact bodyPost_ret (v := .agg #[.int .i64 a0, .int .i64 a1, .int .i64 a2, .int .i64 a3, .int .i64 a4]) (by simp [results, Try.results85, go_sem, r0, r1, r2, r3, r4]) rfl ⟨⟨a0, a1, a2, a3, a4, rfl, rulOk HQ0.out HQ1.out HQ2.out HQ3.out HQ4.out⟩, src_off (src_off (src_off (src_off (src_off (HS5.out) hlt) hlt) hlt) hlt) hlt, ((((((HV.out.1.trans HA5.out.1).setCell (Nat.le_of_lt hlt) _).setCell (Nat.le_of_lt hlt) _).setCell (Nat.le_of_lt hlt) _).setCell (Nat.le_of_lt hlt) _).setCell (Nat.le_of_lt hlt) _), ((((((HV.out.2.trans HA5.out.2).off (Nat.le_refl _)).off (Nat.le_refl _)).off (Nat.le_refl _)).off (Nat.le_refl _)).off (Nat.le_refl _))⟩
theorem RulOk.good {a0 a1 a2 a3 a4 : Int} (h : RulOk a0 a1 a2 a3 a4) : Good 0 0 0 [] a0 a1 a2 a3 a4 0 := ⟨by omega, by omega, by omega, by omega, by simp, by simp, fun _ => rfl, fun _ => rfl, h.h0, h.h1, h.h2, h.h3, h.h4⟩
theorem S4.ah {B : Nat} {w w' : World} {b : Nat} {v0 v1 v2 v3 : Value} (k : S4 w b v0 v1 v2 v3) (h : ApartH B w w') (hn : b ≠ B) : S4 w' b v0 v1 v2 v3 := by
  have ha := h.cells
  exact ⟨by rw [ha.cell _ _ k.lt hn]; exact k.c0, by rw [ha.cell _ _ k.lt hn]; exact k.c1, by rw [ha.cell _ _ k.lt hn]; exact k.c2, by rw [ha.cell _ _ k.lt hn]; exact k.c3, fun o => by rw [ha.frozen _ _ k.lt hn]; exact k.fr o, Nat.lt_of_lt_of_le k.lt ha.size⟩
theorem S5.ah {B : Nat} {w w' : World} {b : Nat} {v0 v1 v2 v3 v4 : Value} (k : S5 w b v0 v1 v2 v3 v4) (h : ApartH B w w') (hn : b ≠ B) : S5 w' b v0 v1 v2 v3 v4 := by
  have ha := h.cells
  exact ⟨by rw [ha.cell _ _ k.lt hn]; exact k.c0, by rw [ha.cell _ _ k.lt hn]; exact k.c1, by rw [ha.cell _ _ k.lt hn]; exact k.c2, by rw [ha.cell _ _ k.lt hn]; exact k.c3, by rw [ha.cell _ _ k.lt hn]; exact k.c4, fun o => by rw [ha.frozen _ _ k.lt hn]; exact k.fr o, Nat.lt_of_lt_of_le k.lt ha.size⟩
theorem OwnMk.apart {B : Nat} {w w' : World} {base : Nat} {v : Value} {l : List Mk} (h : OwnMk w base v l) (ha : ApartH B w w') (hB : B < base) : OwnMk w' base v l := by
  obtain ⟨h1, h2⟩ := h
  refine ⟨h1, ?_⟩
  rcases h2 with h2 | ⟨g, c, cur, e, hg, hh, hrest⟩
  · exact .inl h2
  · exact .inr ⟨g, c, cur, e, hg, by rw [ha.block g (Array.getElem?_eq_some_iff.1 hh).1 (by omega)]; exact hh, hrest⟩
/-- What is held while a breaker is drawn: N is the block of the result, N + 1 that of the breaker. -/
structure DB (w X : World) (N SB R : Nat) (a0 a1 a2 a3 a4 : Int) (a : Option Addr) (len cap k : Nat) (s t o : Int) (va : Option Addr) (n vc : Nat) (l : List Mk) : Prop where
  sr : Src X SB a len cap k
  rl : S5 X R (.int .i64 a0) (.int .i64 a1) (.int .i64 a2) (.int .i64 a3) (.int .i64 a4)
  r0 : S4 X N (.int .i64 0) (.int .i64 0) (.int .i64 0) (.slice none 0 0)
  bb : S4 X (N + 1) (.int .i64 s) (.int .i64 t) (.int .i64 o) (.slice va n vc)
  ow : OwnMk X (N + 2) (.slice va n vc) l
  ln : l.length = n
  lo : ApartH SB w X
  bl : Below SB w X
  lt : w.heap.size = N ∧ SB < N ∧ R < N ∧ R ≠ SB
theorem DB.step {w X Y : World} {N SB R : Nat} {a0 a1 a2 a3 a4 : Int} {a : Option Addr} {len cap k k' : Nat} {s t o : Int} {va : Option Addr} {n vc : Nat} {l : List Mk} (h : DB w X N SB R a0 a1 a2 a3 a4 a len cap k s t o va n vc l) (hs : Src Y SB a len cap k') (hb : Below SB X Y) (ha : ApartH SB X Y) : DB w Y N SB R a0 a1 a2 a3 a4 a len cap k' s t o va n vc l := by
  obtain ⟨e, l1, l2, l3⟩ := h.lt
  exact ⟨hs, h.rl.ah ha l3, h.r0.ah ha (by omega), h.bb.ah ha (by omega), h.ow.apart ha (by omega), h.ln, h.lo.trans ha, h.bl.trans hb, e, l1, l2, l3⟩
theorem DB.turn {w X Y : World} {N SB R : Nat} {a0 a1 a2 a3 a4 : Int} {a : Option Addr} {len cap k : Nat} {s t o : Int} {va : Option Addr} {n vc : Nat} {l : List Mk} {s' t' o' : Int} {va' : Option Addr} {n' vc' : Nat} {l' : List Mk} (h : DB w X N SB R a0 a1 a2 a3 a4 a len cap k s t o va n vc l) (h4 : S4 Y (N + 1) (.int .i64 s') (.int .i64 t') (.int .i64 o') (.slice va' n' vc')) (ho : OwnMk Y (N + 2) (.slice va' n' vc') l') (hn : l'.length = n') (hg : X.grownBy Y (some (N + 1))) : DB w Y N SB R a0 a1 a2 a3 a4 a len cap k s' t' o' va' n' vc' l' := by
  obtain ⟨e, l1, l2, l3⟩ := h.lt
  have hx := h.bb.lt
  refine ⟨h.sr.below (gbTo hg (by omega) (by omega)), h.rl.gb hg (by omega), h.r0.gb hg (by omega), h4, ho, hn, ⟨Nat.le_trans h.lo.size hg.size, fun b hb hnb => ?_⟩, h.bl.trans (gbTo hg (by omega) (by omega)), e, l1, l2, l3⟩
  rw [hg.block b (Nat.lt_of_lt_of_le hb h.lo.size) (by simp; omega)]
  exact h.lo.block b hb hnb
theorem DB.push {w X Y : World} {N SB R : Nat} {a0 a1 a2 a3 a4 : Int} {a : Option Addr} {len cap k : Nat} {s t o : Int} {va : Option Addr} {n vc : Nat} {l : List Mk} {va' : Option Addr} {n' vc' : Nat} {l' : List Mk} (h : DB w X N SB R a0 a1 a2 a3 a4 a len cap k s t o va n vc l) (ho : OwnMk Y (N + 2) (.slice va' n' vc') l') (hn : l'.length = n') (hb : Below (N + 2) X Y) : DB w (Y.setCell ⟨N + 1, 3, none⟩ (.slice va' n' vc')) N SB R a0 a1 a2 a3 a4 a len cap k s t o va' n' vc' l' := by
  obtain ⟨e, l1, l2, l3⟩ := h.lt
  have hx := h.bb.lt
  refine ⟨src_off (h.sr.below (hb.mono (by omega))) (by omega), (h.rl.low hb (by omega)).off (by omega), (h.r0.low hb (by omega)).off (by omega), (h.bb.low hb (by omega)).set3 _, ho.offB (gbSet _ _ _ _) (by omega), hn, ⟨?_, fun b hb1 hnb => ?_⟩, (h.bl.trans (hb.mono (by omega))).setCell (by simp; omega) _, e, l1, l2, l3⟩
  · have := h.lo.size; have := hb.size; simp [World.setCell]; omega
  · rw [setCell_block (by simp; omega), hb.block b (by omega)]
    exact h.lo.block b hb1 hnb
theorem DB.fin {w X : World} {N SB R : Nat} {a0 a1 a2 a3 a4 : Int} {a : Option Addr} {len cap k : Nat} {s t o : Int} {va : Option Addr} {n vc : Nat} {l : List Mk} (h : DB w X N SB R a0 a1 a2 a3 a4 a len cap k s t o va n vc l) (y0 y1 y2 y3 : Value) : OwnMk ((((X.setCell ⟨N, 0, none⟩ y0).setCell ⟨N, 1, none⟩ y1).setCell ⟨N, 2, none⟩ y2).setCell ⟨N, 3, none⟩ y3) N (.slice va n vc) l ∧ Src ((((X.setCell ⟨N, 0, none⟩ y0).setCell ⟨N, 1, none⟩ y1).setCell ⟨N, 2, none⟩ y2).setCell ⟨N, 3, none⟩ y3) SB a len cap k ∧ Below SB w ((((X.setCell ⟨N, 0, none⟩ y0).setCell ⟨N, 1, none⟩ y1).setCell ⟨N, 2, none⟩ y2).setCell ⟨N, 3, none⟩ y3) ∧ ApartH SB w ((((X.setCell ⟨N, 0, none⟩ y0).setCell ⟨N, 1, none⟩ y1).setCell ⟨N, 2, none⟩ y2).setCell ⟨N, 3, none⟩ y3) := by
  obtain ⟨e, l1, l2, l3⟩ := h.lt
  have one : ∀ (Y : World) (i : Nat) (y : Value), OwnMk Y (N + 2) (.slice va n vc) l ∧ Src Y SB a len cap k ∧ Below SB w Y ∧ ApartH SB w Y → OwnMk (Y.setCell ⟨N, i, none⟩ y) (N + 2) (.slice va n vc) l ∧ Src (Y.setCell ⟨N, i, none⟩ y) SB a len cap k ∧ Below SB w (Y.setCell ⟨N, i, none⟩ y) ∧ ApartH SB w (Y.setCell ⟨N, i, none⟩ y) := fun Y i y ⟨h1, h2, h3, h4⟩ => ⟨h1.offB (gbSet _ _ _ _) (by omega), src_off h2 (by omega), h3.setCell (by simp; omega) _, by have := h4.size; simp [World.setCell]; omega, fun b hb hn => by rw [setCell_block (by simp; omega)]; exact h4.block b hb hn⟩
  obtain ⟨z1, z2⟩ := one _ 3 y3 (one _ 2 y2 (one _ 1 y1 (one _ 0 y0 ⟨h.ow, h.sr, h.bl, h.lo⟩)))
  exact ⟨z1.lower (by omega), z2⟩
def DrawnB (w w' : World) (N SB : Nat) (a : Option Addr) (len cap k : Nat) (e : Ending) : Prop := ∃ (s t o now : Int) (va : Option Addr) (n vc : Nat) (l : List Mk), e = .returned (.tuple #[.agg #[.int .i64 s, .int .i64 t, .int .i64 o, .slice va n vc], .int .i64 now]) ∧ l.length = n ∧ n ≤ 60 ∧ (0 ≤ now ∧ now ≤ 35000) ∧ OwnMk w' N (.slice va n vc) l ∧ (∃ k', k' ≤ k + 200 ∧ Src w' SB a len cap k') ∧ Below SB w w' ∧ ApartH SB w w'
theorem DrawnB.mk {w w' : World} {N SB : Nat} {a : Option Addr} {len cap k : Nat} {e : Ending} (h : ∃ (s t o now : Int) (va : Option Addr) (n vc : Nat) (l : List Mk), e = .returned (.tuple #[.agg #[.int .i64 s, .int .i64 t, .int .i64 o, .slice va n vc], .int .i64 now]) ∧ l.length = n ∧ n ≤ 60 ∧ (0 ≤ now ∧ now ≤ 35000) ∧ OwnMk w' N (.slice va n vc) l ∧ (∃ k', k' ≤ k + 200 ∧ Src w' SB a len cap k') ∧ Below SB w w' ∧ ApartH SB w w') : DrawnB w w' N SB a len cap k e := h
noncomputable def lenAt (X : World) (N : Nat) : Nat := match X.cell? ⟨N + 1, 3, none⟩ with
  | some (.slice _ n _) => n
  | _ => 0
theorem lenAt_eq {X : World} {N n vc : Nat} {va : Option Addr} (h : X.cell? ⟨N + 1, 3, none⟩ = some (.slice va n vc)) : lenAt X N = n := by unfold lenAt; rw [h]
set_option maxRecDepth 100000 in
set_option maxHeartbeats 16000000 in
theorem l10Draw_any (w : World) (SB R : Nat) (a0 a1 a2 a3 a4 : Int) (a : Option Addr) (len cap k : Nat) (hs : Src w SB a len cap k) (hR : S5 w R (.int .i64 a0) (.int .i64 a1) (.int .i64 a2) (.int .i64 a3) (.int .i64 a4)) (hne : R ≠ SB) (hru : RulOk a0 a1 a2 a3 a4) (hk : k ≤ 1000) (hl2 : len ≤ 1048577) (N : Nat) (hN : w.heap.size = N) :
    Calls Try.prog 86 #[.pointer (some ⟨SB, 0, none⟩), .pointer (some ⟨R, 0, none⟩)] w fun e w' => DrawnB w w' N SB a len cap k e := by
  have HRU := rulQ hru
  have J0 : Hid (DB w ((w.alloc (.cells #[.int .i64 0, .int .i64 0, .int .i64 0, .slice none 0 0] 51)).alloc (.cells #[.int .i64 0, .int .i64 0, .int .i64 0, .slice none 0 0] 51)) N SB R a0 a1 a2 a3 a4 a len cap k 0 0 0 none 0 0 []) := by
    have b1 : Below w.heap.size w (w.alloc (.cells #[.int .i64 0, .int .i64 0, .int .i64 0, .slice none 0 0] 51)) := (Below.refl _ _).alloc (Nat.le_refl _) _
    obtain ⟨w1, hw1⟩ : ∃ w1, w.alloc (.cells #[.int .i64 0, .int .i64 0, .int .i64 0, .slice none 0 0] 51) = w1 := ⟨_, rfl⟩
    have s1 : S4 w1 w.heap.size (.int .i64 0) (.int .i64 0) (.int .i64 0) (.slice none 0 0) := by rw [← hw1]; exact S4.new w _ _ _ _ _
    have z1 : w1.heap.size = w.heap.size + 1 := by rw [← hw1]; simp
    rw [hw1] at b1 ⊢
    have b2 : Below w1.heap.size w1 (w1.alloc (.cells #[.int .i64 0, .int .i64 0, .int .i64 0, .slice none 0 0] 51)) := (Below.refl _ _).alloc (Nat.le_refl _) _
    have s2 := S4.new w1 (.int .i64 0) (.int .i64 0) (.int .i64 0) (.slice none 0 0) 51
    rw [z1, hN] at s2
    rw [hN] at s1
    have b3 := b1.trans (b2.mono b1.size)
    have hlt := hs.lt
    have hr := hR.lt
    exact ⟨hs.below (b3.mono hlt), hR.keep b3, s1.keep b2, s2, OwnMk.none0 _ _, rfl, .below b3, b3.mono (Nat.le_of_lt hlt), hN, by omega, by omega, hne⟩
  obtain ⟨V1, hV1⟩ : ∃ V, V = w.alloc (.cells #[.int .i64 0, .int .i64 0, .int .i64 0, .slice none 0 0] 51) := ⟨_, rfl⟩
  rw [← hV1] at J0
  have hz1 : V1.heap.size = N + 1 := by rw [hV1, ← hN]; simp
  have HV1 := hid12 hV1
  obtain ⟨V2, hV2⟩ : ∃ V, V = V1.alloc (.cells #[.int .i64 0, .int .i64 0, .int .i64 0, .slice none 0 0] 51) := ⟨_, rfl⟩
  rw [← hV2] at J0
  have HV2 := hid12 hV2
  clear hs hR hne hru hV1 hV2
  go_enter Try.func86, Try.ntmps86
  go_upto_region 1 with fail
  rw [← HV1.out]
  clear HV1
  go_upto_region 2 with fail
  rw [← HV2.out]
  clear HV2 hz1
  generalize V2 = W0 at *
  go_wp2_with fail
  refine (l1Pick_h _ SB a len cap k J0.out.sr [0, 2, 5, 9, 14] 5 rfl (by omega) (by omega) (by omega) hl2).mono ?_
  rintro r x0 ⟨⟨c, cm, rfl⟩, hs1, hb1, ha1⟩
  have hn : 0 ≤ c ∧ c ≤ 14 := by simp only [List.mem_cons, List.not_mem_nil, or_false] at cm; omega
  clear cm
  have J1 := hid12 (J0.out.step hs1 hb1 ha1)
  clear hs1 hb1 ha1 J0
  go_wp2_with fail
  go_loopw [7, 8] (fun v i X => ∃ (M : Nat) (now s t o : Int) (va : Option Addr) (n vc : Nat) (l : List Mk) (k' : Nat), i = .int .i64 (M : Int) ∧ v = .int .i64 now ∧ n + M ≤ 14 ∧ k' + 3 * M ≤ k + 50 ∧ 0 ≤ now ∧ now + 2500 * (M : Int) ≤ 35000 ∧ Good s t o l a0 a1 a2 a3 a4 now ∧ DB w X N SB R a0 a1 a2 a3 a4 a len cap k' s t o va n vc l) (fun _ i _ => (intOf i).toNat)
  case atStart => exact ⟨c.toNat, 0, 0, 0, 0, none, 0, 0, [], k + 1, by rw [Int.toNat_of_nonneg hn.1], rfl, by omega, by omega, by omega, by omega, HRU.out.good, J1.out⟩
  case round =>
    obtain ⟨M, now, s, t, o, va, n, vc, l, k', rfl, rfl, hnM, hk', hn0, hn1, hgood, hJ⟩ := hrel
    clear J1 hn
    have J0 := hid12 hJ
    have HG : Hid (Good s t o l a0 a1 a2 a3 a4 now) := hgood
    clear hJ hgood
    cases M with
    | zero =>
      have HLN : Hid (l.length = n) := J0.out.ln
      have HL60 : Hid (n ≤ 60) := (by show n ≤ 60; omega)
      have HNOW : Hid (0 ≤ now ∧ now ≤ 35000) := (by show 0 ≤ now ∧ now ≤ 35000; omega)
      have hs012 := HG.out.hs
      go_wp2_with fail
      refine (l1Chance_h _ SB a len cap k' 25 J0.out.sr (by omega) (by omega) (by omega) hl2).mono ?_
      rintro r x1 ⟨⟨c25, rfl⟩, hs1, hb1, ha1⟩
      have J2 := hid12 (J0.out.step hs1 hb1 ha1)
      clear hs1 hb1 ha1 J0
      cases c25
      · clear hs012 HG
        obtain ⟨c0, c1, c2, c3, fr, _⟩ := J2.out.bb
        obtain ⟨r0, r1, r2, r3, rf, _⟩ := J2.out.r0
        have rf0 := rf 0
        have rf1 := rf 1
        have rf2 := rf 2
        have rf3 := rf 3
        clear rf fr
        have HOW : Hid (∀ y0 y1 y2 y3, OwnMk ((((x1.setCell ⟨N, 0, none⟩ y0).setCell ⟨N, 1, none⟩ y1).setCell ⟨N, 2, none⟩ y2).setCell ⟨N, 3, none⟩ y3) N (.slice va n vc) l ∧ Src ((((x1.setCell ⟨N, 0, none⟩ y0).setCell ⟨N, 1, none⟩ y1).setCell ⟨N, 2, none⟩ y2).setCell ⟨N, 3, none⟩ y3) SB a len cap (k' + 1) ∧ Below SB w ((((x1.setCell ⟨N, 0, none⟩ y0).setCell ⟨N, 1, none⟩ y1).setCell ⟨N, 2, none⟩ y2).setCell ⟨N, 3, none⟩ y3) ∧ ApartH SB w ((((x1.setCell ⟨N, 0, none⟩ y0).setCell ⟨N, 1, none⟩ y1).setCell ⟨N, 2, none⟩ y2).setCell ⟨N, 3, none⟩ y3)) := fun y0 y1 y2 y3 => DB.fin J2.out y0 y1 y2 y3
        have HKB : Hid ((k' + 1) ≤ k + 200) := (by show (k' + 1) ≤ k + 200; omega)
        clear J2
        go_wp2_with fail
        exact bodyPost_ret (v := .tuple #[.agg #[.int .i64 s, .int .i64 t, .int .i64 o, .slice va n vc], .int .i64 now]) (by simp [results, Try.results86, go_sem, r0, r1, r2, r3]) rfl (DrawnB.mk ⟨s, t, o, now, va, n, vc, l, rfl, HLN.out, HL60.out, HNOW.out, (HOW.out _ _ _ _).1, ⟨(k' + 1), HKB.out, (HOW.out _ _ _ _).2.1⟩, (HOW.out _ _ _ _).2.2.1, (HOW.out _ _ _ _).2.2.2⟩)
      · have K2 := J2.out.bb.c0
        rcases hs012 with rfl | rfl | rfl
        · clear K2
          obtain ⟨c0, c1, c2, c3, fr, _⟩ := J2.out.bb
          clear HG fr
          go_wp2_with fail
          refine (l1Pick_h _ SB a len cap (k' + 1) J2.out.sr [59, 60] 2 rfl (by omega) (by omega) (by omega) hl2).mono ?_
          rintro r x2 ⟨⟨m2, mm, rfl⟩, hs1, hb1, ha1⟩
          have hm2 : m2 ≤ 60 := by simp only [List.mem_cons, List.not_mem_nil, or_false] at mm; omega
          clear mm
          have J3 := hid12 (J2.out.step hs1 hb1 ha1)
          clear hs1 hb1 ha1 J2
          clear c0 c1 c2 c3
          go_wp2_with fail
          have hk2 : k' + 2 ≤ k + 52 := by omega
          go_loopw [] (fun X => ∃ (va : Option Addr) (n vc : Nat) (l : List Mk), n ≤ 60 ∧ DB w X N SB R a0 a1 a2 a3 a4 a len cap (k' + 2) 0 t o va n vc l) (fun X => 60 - lenAt X N)
          case atStart => exact ⟨va, n, vc, l, HL60.out, J3.out⟩
          case round =>
            obtain ⟨vb, nb, vd, lb, hnb, hJ⟩ := hrel
            clear J3 HLN HL60
            have J4 := hid12 hJ
            clear hJ
            obtain ⟨c0, c1, c2, c3, fr, _⟩ := J4.out.bb
            have fr3 := fr 3
            clear fr
            by_cases hlt : (nb : Int) < m2
            · have hbs : N + 2 ≤ wr.heap.size := J4.out.bb.lt
              have HE : Hid (lenAt wr N = nb) := lenAt_eq c3
              have hlb : lb.length ≤ 60 := by have := J4.out.ln; omega
              go_wp2_with (at_builtin; refine wpList_append1Mk wr rfl (.tmp 49) (.tmp 52) rfl (N + 2) _ lb ⟨now, true⟩ rfl (by simp [go_sem]) J4.out.ow (by omega) hbs ?_; intro v2 x5 h1 h2 _; obtain ⟨lc, hlc⟩ : ∃ lc, lb ++ [(⟨now, true⟩ : Mk)] = lc := ⟨_, rfl⟩; have hle : lc.length = nb + 1 := (by rw [← hlc, List.length_append, J4.out.ln]; rfl); rw [hlc] at h1; obtain ⟨g, ve, rfl, hve⟩ := h1.some (by omega); rw [hle] at h1 hve ⊢; have J5 := hid12 (J4.out.push h1 hle h2); have HC5 := hid12 (J4.out.bb.low h2 (by omega)); clear h1 h2 hlc; obtain ⟨d0, d1, d2, d3, df, _⟩ := HC5.out; have df3 := df 3; clear df c0 c1 c2 c3 fr3)
              go_roundw
              case rel => exact ⟨_, nb + 1, ve, lc, by omega, J5.out⟩
              case measure => have := HE.out; rw [lenAt_eq J5.out.bb.c3, this]; omega
            · have HLN : Hid (lb.length = nb) := J4.out.ln
              have HL60 : Hid (nb ≤ 60) := hnb
              clear c0 c1 c2 c3 fr3
              obtain ⟨c0, c1, c2, c3, fr, _⟩ := J4.out.bb
              obtain ⟨r0, r1, r2, r3, rf, _⟩ := J4.out.r0
              have rf0 := rf 0
              have rf1 := rf 1
              have rf2 := rf 2
              have rf3 := rf 3
              clear rf fr
              have HOW : Hid (∀ y0 y1 y2 y3, OwnMk ((((wr.setCell ⟨N, 0, none⟩ y0).setCell ⟨N, 1, none⟩ y1).setCell ⟨N, 2, none⟩ y2).setCell ⟨N, 3, none⟩ y3) N (.slice vb nb vd) lb ∧ Src ((((wr.setCell ⟨N, 0, none⟩ y0).setCell ⟨N, 1, none⟩ y1).setCell ⟨N, 2, none⟩ y2).setCell ⟨N, 3, none⟩ y3) SB a len cap (k' + 2) ∧ Below SB w ((((wr.setCell ⟨N, 0, none⟩ y0).setCell ⟨N, 1, none⟩ y1).setCell ⟨N, 2, none⟩ y2).setCell ⟨N, 3, none⟩ y3) ∧ ApartH SB w ((((wr.setCell ⟨N, 0, none⟩ y0).setCell ⟨N, 1, none⟩ y1).setCell ⟨N, 2, none⟩ y2).setCell ⟨N, 3, none⟩ y3)) := fun y0 y1 y2 y3 => DB.fin J4.out y0 y1 y2 y3
              have HKB : Hid ((k' + 2) ≤ k + 200) := (by show (k' + 2) ≤ k + 200; omega)
              clear J4
              go_wp2_with fail
              exact bodyPost_ret (v := .tuple #[.agg #[.int .i64 0, .int .i64 t, .int .i64 o, .slice vb nb vd], .int .i64 now]) (by simp [results, Try.results86, go_sem, r0, r1, r2, r3]) rfl (DrawnB.mk ⟨0, t, o, now, vb, nb, vd, lb, rfl, HLN.out, HL60.out, HNOW.out, (HOW.out _ _ _ _).1, ⟨(k' + 2), HKB.out, (HOW.out _ _ _ _).2.1⟩, (HOW.out _ _ _ _).2.2.1, (HOW.out _ _ _ _).2.2.2⟩)
        · clear HG K2
          obtain ⟨c0, c1, c2, c3, fr, _⟩ := J2.out.bb
          obtain ⟨r0, r1, r2, r3, rf, _⟩ := J2.out.r0
          have rf0 := rf 0
          have rf1 := rf 1
          have rf2 := rf 2
          have rf3 := rf 3
          clear rf fr
          have HOW : Hid (∀ y0 y1 y2 y3, OwnMk ((((x1.setCell ⟨N, 0, none⟩ y0).setCell ⟨N, 1, none⟩ y1).setCell ⟨N, 2, none⟩ y2).setCell ⟨N, 3, none⟩ y3) N (.slice va n vc) l ∧ Src ((((x1.setCell ⟨N, 0, none⟩ y0).setCell ⟨N, 1, none⟩ y1).setCell ⟨N, 2, none⟩ y2).setCell ⟨N, 3, none⟩ y3) SB a len cap (k' + 1) ∧ Below SB w ((((x1.setCell ⟨N, 0, none⟩ y0).setCell ⟨N, 1, none⟩ y1).setCell ⟨N, 2, none⟩ y2).setCell ⟨N, 3, none⟩ y3) ∧ ApartH SB w ((((x1.setCell ⟨N, 0, none⟩ y0).setCell ⟨N, 1, none⟩ y1).setCell ⟨N, 2, none⟩ y2).setCell ⟨N, 3, none⟩ y3)) := fun y0 y1 y2 y3 => DB.fin J2.out y0 y1 y2 y3
          have HKB : Hid ((k' + 1) ≤ k + 200) := (by show (k' + 1) ≤ k + 200; omega)
          clear J2
          go_wp2_with fail
          exact bodyPost_ret (v := .tuple #[.agg #[.int .i64 1, .int .i64 t, .int .i64 o, .slice va n vc], .int .i64 now]) (by simp [results, Try.results86, go_sem, r0, r1, r2, r3]) rfl (DrawnB.mk ⟨1, t, o, now, va, n, vc, l, rfl, HLN.out, HL60.out, HNOW.out, (HOW.out _ _ _ _).1, ⟨(k' + 1), HKB.out, (HOW.out _ _ _ _).2.1⟩, (HOW.out _ _ _ _).2.2.1, (HOW.out _ _ _ _).2.2.2⟩)
        · clear HG K2
          obtain ⟨c0, c1, c2, c3, fr, _⟩ := J2.out.bb
          obtain ⟨r0, r1, r2, r3, rf, _⟩ := J2.out.r0
          have rf0 := rf 0
          have rf1 := rf 1
          have rf2 := rf 2
          have rf3 := rf 3
          clear rf fr
          have HOW : Hid (∀ y0 y1 y2 y3, OwnMk ((((x1.setCell ⟨N, 0, none⟩ y0).setCell ⟨N, 1, none⟩ y1).setCell ⟨N, 2, none⟩ y2).setCell ⟨N, 3, none⟩ y3) N (.slice va n vc) l ∧ Src ((((x1.setCell ⟨N, 0, none⟩ y0).setCell ⟨N, 1, none⟩ y1).setCell ⟨N, 2, none⟩ y2).setCell ⟨N, 3, none⟩ y3) SB a len cap (k' + 1) ∧ Below SB w ((((x1.setCell ⟨N, 0, none⟩ y0).setCell ⟨N, 1, none⟩ y1).setCell ⟨N, 2, none⟩ y2).setCell ⟨N, 3, none⟩ y3) ∧ ApartH SB w ((((x1.setCell ⟨N, 0, none⟩ y0).setCell ⟨N, 1, none⟩ y1).setCell ⟨N, 2, none⟩ y2).setCell ⟨N, 3, none⟩ y3)) := fun y0 y1 y2 y3 => DB.fin J2.out y0 y1 y2 y3
          have HKB : Hid ((k' + 1) ≤ k + 200) := (by show (k' + 1) ≤ k + 200; omega)
          clear J2
          go_wp2_with fail
          exact bodyPost_ret (v := .tuple #[.agg #[.int .i64 2, .int .i64 t, .int .i64 o, .slice va n vc], .int .i64 now]) (by simp [results, Try.results86, go_sem, r0, r1, r2, r3]) rfl (DrawnB.mk ⟨2, t, o, now, va, n, vc, l, rfl, HLN.out, HL60.out, HNOW.out, (HOW.out _ _ _ _).1, ⟨(k' + 1), HKB.out, (HOW.out _ _ _ _).2.1⟩, (HOW.out _ _ _ _).2.2.1, (HOW.out _ _ _ _).2.2.2⟩)
    | succ M =>
      have gN : (0 : Int) < ((M + 1 : Nat) : Int) := by omega
      go_wp2_with fail
      refine (l1Pick_h _ SB a len cap k' J0.out.sr [0, 10, 100, 600, 2500] 5 rfl (by omega) (by omega) (by omega) hl2).mono ?_
      rintro r x1 ⟨⟨d, dm, rfl⟩, hs1, hb1, ha1⟩
      have hd : 0 ≤ d ∧ d ≤ 2500 := by simp only [List.mem_cons, List.not_mem_nil, or_false] at dm; omega
      clear dm
      have J1 := hid12 (J0.out.step hs1 hb1 ha1)
      clear hs1 hb1 ha1 J0
      have wn : IntKind.i64.wrap (now + d) = now + d := by rw [IntKind.wrap_i64]; omega
      go_wp2_with fail
      refine (l1Chance_h _ SB a len cap (k' + 1) 3 J1.out.sr (by omega) (by omega) (by omega) hl2).mono ?_
      rintro r x2 ⟨⟨c3, rfl⟩, hs1, hb1, ha1⟩
      have J2 := hid12 (J1.out.step hs1 hb1 ha1)
      clear hs1 hb1 ha1 J1
      have HG2 : Hid (Good s t o l a0 a1 a2 a3 a4 (now + d)) := HG.out.later (by omega) (by omega)
      clear HG
      have hwn : now + d ≤ 35000 := by omega
      cases c3
      · 
        go_wp2_with fail
        refine (l1Chance_h _ SB a len cap (k' + 2) 2 J2.out.sr (by omega) (by omega) (by omega) hl2).mono ?_
        rintro r x3 ⟨⟨c2, rfl⟩, hs1, hb1, ha1⟩
        have J3 := hid12 (J2.out.step hs1 hb1 ha1)
        clear hs1 hb1 ha1 J2
        have h59 : l.length ≤ 59 := by have := J3.out.ln; omega
        have HLN : Hid (l.length = n) := J3.out.ln
        have HST : Hid (Calls Try.prog 74 #[.pointer (some ⟨N + 1, 0, none⟩), .pointer (some ⟨R, 0, none⟩), .int .i64 (now + d), .bool c2] x3 fun e w' => e = .returned (.tuple #[]) ∧ NoteTO w' (N + 2) (N + 1) (noteV s t o l a0 a1 a2 (now + d) c2) ∧ x3.grownBy w' (some (N + 1))) := by
          have z := specTurnO_any x3 (N + 2) (N + 1) R (by omega) J3.out.bb.lt (by have := J3.out.lt; omega) s t o va vc l a0 a1 a2 a3 a4 (now + d) c2 h59 HG2.out (by rw [HLN.out]; exact J3.out.bb) J3.out.rl (by rw [HLN.out]; exact J3.out.ow)
          exact z
        have HG3 : Hid (Good (noteV s t o l a0 a1 a2 (now + d) c2).s (noteV s t o l a0 a1 a2 (now + d) c2).t (noteV s t o l a0 a1 a2 (now + d) c2).o (noteV s t o l a0 a1 a2 (now + d) c2).l a0 a1 a2 a3 a4 (now + d) ∧ (noteV s t o l a0 a1 a2 (now + d) c2).l.length ≤ n + 1) := by
          have z := HG2.out.note c2 h59
          rw [HLN.out] at z
          exact z
        clear HG2 h59 HLN
        generalize noteV s t o l a0 a1 a2 (now + d) c2 = nv at *
        go_wp2_with fail
        refine HST.out.mono ?_
        rintro r x4 ⟨rfl, ⟨vb, vd, h4, ho⟩, hg⟩
        have J4 := hid12 (J3.out.turn h4 ho rfl hg)
        clear h4 ho hg J3 HST
        obtain ⟨s2, t2, o2, l2⟩ := nv
        obtain ⟨n2, hn2⟩ : ∃ x, l2.length = x := ⟨_, rfl⟩
        have hle : n2 ≤ n + 1 := by have := HG3.out.2; simp only at this; omega
        have HG4 : Hid (Good s2 t2 o2 l2 a0 a1 a2 a3 a4 (now + d)) := HG3.out.1
        simp only [hn2] at J4
        clear HG3 hn2
        go_wp2_with fail
        go_roundw
        case rel => exact ⟨M, now + d, s2, t2, o2, vb, n2, vd, l2, k' + 3, by go_num, rfl, by omega, by omega, by omega, by omega, HG4.out, J4.out⟩
        case measure => simp [intOf]
      · have HST : Hid (Calls Try.prog 67 #[.pointer (some ⟨N + 1, 0, none⟩), .pointer (some ⟨R, 0, none⟩), .int .i64 (now + d)] x2 fun e w' => e = .returned (.bool (alB s t o a3 a4 (now + d))) ∧ S4 w' (N + 1) (.int .i64 (alS s t o a3 a4 (now + d))) (.int .i64 t) (.int .i64 (alO s t o a3 a4 (now + d))) (.slice va n vc) ∧ x2.grownBy w' (some (N + 1))) := specLetIn_any x2 (N + 1) R s t o (.slice va n vc) a0 a1 a2 a3 a4 (now + d) HG2.out.hs ⟨HG2.out.ht.1, HG2.out.ht.2, HG2.out.hnow⟩ HG2.out.ho J2.out.bb J2.out.rl
        have HG3 : Hid (Good (alS s t o a3 a4 (now + d)) t (alO s t o a3 a4 (now + d)) l a0 a1 a2 a3 a4 (now + d)) := HG2.out.allow
        clear HG2
        generalize alS s t o a3 a4 (now + d) = s2 at *
        generalize alO s t o a3 a4 (now + d) = o2 at *
        generalize alB s t o a3 a4 (now + d) = b2 at *
        go_wp2_with fail
        refine HST.out.mono ?_
        rintro r x4 ⟨rfl, h4, hg⟩
        have J4 := hid12 (J2.out.turn h4 (J2.out.ow.offB hg (by omega)) J2.out.ln hg)
        clear h4 hg J2 HST
        go_wp2_with fail
        go_roundw
        case rel => exact ⟨M, now + d, s2, t, o2, va, n, vc, l, k' + 2, by go_num, rfl, by omega, by omega, by omega, by omega, HG3.out, J4.out⟩
        case measure => simp [intOf]
end Go.Proofs.Ytmgidcigihpbeaa
/-
  Marks: one more appended in a drawn region, and where the row lies then.
-/
namespace Go.Proofs.Ytmgidcigihpbeaa
open Go.ChangeShapes Go.WideShapes Go.ChangeAt Go.RowKit Go.Sort
theorem step_append1Mk {ops : Array Oper} {o : Oper} {a : Act} {K : Act → World → Prop} {Q : Exit → Act → World → Prop} {E : Prop} (w : World) (hgd : o.guard = none) (s x : Operand)
    (ho : o.op = .call { callee := .builtin .append, args := #[s, x], argTypes := #[49, 49] }) (base : Nat) (v : Value) (l : List Mk) (r : Mk) (b0 n : Nat) (hn : l.length = n)
    (hs : a.eval s = v) (hown : OwnMk w base v l) (hx : a.eval x = .slice (some ⟨b0, 0, none⟩) 1 1) (h0 : w.cell? ⟨b0, 0, none⟩ = some (.int .i64 r.tm)) (h1 : w.cell? ⟨b0, 1, none⟩ = some (.bool r.gd)) (hl : n ≤ 1000000) (hbase : base ≤ w.heap.size)
    (h : ∀ g cap w', OwnMk w' base (.slice (some ⟨g, 0, none⟩) (n + 1) cap) (l ++ [r]) → w.grownBy w' v.ownBlock → (v.ownBlock = some g ∨ g = w.heap.size) → K (a.put o.dst (.slice (some ⟨g, 0, none⟩) (n + 1) cap)) w') :
    if Region.wanted o (yielded ops a.tmps) = true then Oper.wp Try.prog o a w K Q else E := by
  subst hn
  have hw : Region.wanted o (yielded ops a.tmps) = true := by simp [Region.wanted, hgd]
  rw [if_pos hw]
  obtain ⟨i0, hi, hz0, hz1, hz2⟩ := info_parts infoMk
  refine wp_append_lies w s x 49 ho base 112 i0 _ 2 16 Try.underlying49 hi hz0 hz1 hz2 rfl (by decide) v l.length (wMk l) hs hown ⟨b0, 0, none⟩ 1 1 (cellMk r) hx rfl ?_ ?_ (by decide) (by unfold maxLen; omega) (by omega) hbase _ rfl ?_
  · intro j u hj
    match j, hj with
    | 0, hj => simp [cellMk] at hj; subst hj; simpa [Addr.add] using h0
    | 1, hj => simp [cellMk] at hj; subst hj; simpa [Addr.add] using h1
  · intro u hu; simp [cellMk] at hu; rcases hu with rfl | rfl <;> rfl
  · intro g cap w' h2 h3 h4 _
    refine h g cap w' ?_ h3 h4
    unfold OwnMk
    rw [List.length_append, show wMk (l ++ [r]) = wMk l ++ cellMk r by simp [wMk]]
    exact h2
theorem wpList_append1MkG {ops : Array Oper} {rest : List Oper} {o : Oper} {a : Act} {Q : Exit → Act → World → Prop} (w : World) (hgd : o.guard = none) (s x : Operand)
    (ho : o.op = .call { callee := .builtin .append, args := #[s, x], argTypes := #[49, 49] }) (base : Nat) (v : Value) (l : List Mk) (r : Mk) (b0 n : Nat) (hn : l.length = n)
    (hs : a.eval s = v) (hown : OwnMk w base v l) (hx : a.eval x = .slice (some ⟨b0, 0, none⟩) 1 1) (h0 : w.cell? ⟨b0, 0, none⟩ = some (.int .i64 r.tm)) (h1 : w.cell? ⟨b0, 1, none⟩ = some (.bool r.gd)) (hl : n ≤ 1000000) (hbase : base ≤ w.heap.size)
    (h : ∀ g cap w', OwnMk w' base (.slice (some ⟨g, 0, none⟩) (n + 1) cap) (l ++ [r]) → w.grownBy w' v.ownBlock → (v.ownBlock = some g ∨ g = w.heap.size) → wpList Try.prog ops Q rest (a.put o.dst (.slice (some ⟨g, 0, none⟩) (n + 1) cap)) w') :
    wpList Try.prog ops Q (o :: rest) a w := by
  subst hn
  obtain ⟨i0, hi, hz0, hz1, hz2⟩ := info_parts infoMk
  refine wpList_plain hgd fun _ hK => ?_
  refine wp_append_lies w s x 49 ho base 112 i0 _ 2 16 Try.underlying49 hi hz0 hz1 hz2 rfl (by decide) v l.length (wMk l) hs hown ⟨b0, 0, none⟩ 1 1 (cellMk r) hx rfl ?_ ?_ (by decide) (by unfold maxLen; omega) (by omega) hbase _ rfl ?_
  · intro j u hj
    match j, hj with
    | 0, hj => simp [cellMk] at hj; subst hj; simpa [Addr.add] using h0
    | 1, hj => simp [cellMk] at hj; subst hj; simpa [Addr.add] using h1
  · intro u hu; simp [cellMk] at hu; rcases hu with rfl | rfl <;> rfl
  · intro g cap w' h2 h3 h4 _
    refine hK _ _ (h g cap w' ?_ h3 h4)
    unfold OwnMk
    rw [List.length_append, show wMk (l ++ [r]) = wMk l ++ cellMk r by simp [wMk]]
    exact h2
end Go.Proofs.Ytmgidcigihpbeaa
/-
  A region that draws its order, whose last operation waits for all others: what is held of the world is held behind each operation but that last one.
-/
namespace Go.Proofs.Ytmgidcigihpbeaa
open Go Go.ChangeShapes Go.WideShapes Go.ChangeAt Go.RowKit
section
variable {P : Program} {ops : Array Oper} {Q : Exit → Act → World → Prop} {S : World → Prop} {m : Nat}
/-- Whatever may come up; behind it S is shown, but where it was operation m. -/
def butLast (P : Program) (ops : Array Oper) (Q : Exit → Act → World → Prop) (S : World → Prop) (m : Nat) : Nat → Array Bool → Act → World → Prop
  | 0, done, a, w => Region.ready .any ops done = [] ∧ Q .normal a w
  | n + 1, done, a, w => (Region.ready .any ops done = [] → Q .normal a w) ∧
      ∀ i ∈ Region.ready .any ops done, wpOp P ops Q i (fun a' w' => (i = m ∨ S w') ∧ butLast P ops Q S m n (done.setIfInBounds i true) a' w') a w
theorem butLast_any : ∀ (n : Nat) (done : Array Bool) (a : Act) (w : World), butLast P ops Q S m n done a w → wpAny P .any ops Q n done a w := by
  intro n
  induction n with
  | zero => intro done a w h; exact h
  | succ n ih => intro done a w h; exact ⟨h.1, fun i hi => wpOp_mono (fun a' w' k => ih _ a' w' k.2) (h.2 i hi)⟩
theorem ready_not_done {done : Array Bool} {i : Nat} (h : i ∈ Region.ready .any ops done) (k : done.getD i false = true) : False := by
  have q := (mem_ready.1 h).1
  rcases Nat.lt_or_ge i done.size with z | z
  · simp [z] at q k
    rw [q] at k
    cases k
  · simp [Array.getElem?_eq_none z] at k
/-- While operation i has not come up, one that waits for it cannot. -/
theorem waits_not {done : Array Bool} {i j : Nat} (hi : i ∈ Region.ready .any ops done) (hj : j ∈ Region.ready .any ops done) (hw : Region.waitsFor .any ops j i = true) : False := by
  obtain ⟨oj, hoj, e, he, hb, rfl⟩ := Region.waitsFor_spec hw
  obtain ⟨_, oj', hoj', hall⟩ := mem_ready.1 hj
  rw [hoj] at hoj'
  cases hoj'
  exact ready_not_done hi (hall e he hb)
/-- One that yields in every world that meets S may be taken first, if the last one waits for it. -/
theorem butLast_first {i : Nat} {oi : Oper} {v : Value} (hi : ops[i]? = some oi) (hsel : ∀ (j : Nat) (o : Oper) cs b, ops[j]? = some o → o.op ≠ .select cs b)
    (hw : Region.waitsFor .any ops m i = true) (hQ : ∀ c a w, Q (.panic c) (a.put oi.dst v) w → Q (.panic c) a w) :
    ∀ (n : Nat) (done : Array Bool) (a : Act) (w : World), (∀ j oj, ops[j]? = some oj → j ≠ i → done.getD j true = false → (∀ e ∈ oj.after, Region.binds .any e = true → e.on ≠ i) → oi.apart ops oj = true) →
      i ∈ Region.ready .any ops done → YieldsIf P ops S oi v a → S w → butLast P ops Q S m n (done.setIfInBounds i true) (a.put oi.dst v) w → butLast P ops Q S m (n + 1) done a w := by
  intro n
  induction n with
  | zero =>
    intro done a w _ hr hy hS H
    refine ⟨fun z => (by rw [z] at hr; cases hr), fun j hj => ?_⟩
    by_cases e : j = i
    · rw [e]; exact hy.wpOp hi hS ⟨.inr hS, H⟩
    · have k := ready_mono hj e
      rw [H.1] at k
      cases k
  | succ n ih =>
    intro done a w hap hr hy hS H
    refine ⟨fun z => (by rw [z] at hr; cases hr), fun j hj => ?_⟩
    by_cases e : j = i
    · rw [e]; exact hy.wpOp hi hS ⟨.inr hS, H⟩
    · have hjm : j ≠ m := fun q => waits_not hr hj (by rw [q]; exact hw)
      obtain ⟨hun, oj, hoj, hall⟩ := mem_ready.1 hj
      have hno : ∀ x ∈ oj.after, Region.binds .any x = true → x.on ≠ i := fun x hx hb q => ready_not_done hr (by have := hall x hx hb; rwa [q] at this)
      have step := wpOp_putIf hoj (hap j oj hoj e hun hno) (fun cs b => hsel i oi cs b hi) (fun cs b => hsel j oj cs b hoj) hQ hy (H.2 j (ready_mono hj e))
      refine wpOp_mono (fun a' w' k => ?_) step
      have hS' : S w' := k.2.1.resolve_left hjm
      refine ⟨.inr hS', ih (done.setIfInBounds j true) a' w' (fun c oc hc hci hcu hcn => hap c oc hc hci ?_ hcn) (ready_mono hr (Ne.symm e)) k.1 hS' ?_⟩
      · by_cases q : j = c
        · rw [← q]; exact hun
        · rwa [getD_set_ne true q] at hcu
      · rw [Array.setIfInBounds_comm _ _ e]
        exact k.2.2
theorem butLast_take {i : Nat} {oi : Oper} {v : Value} {n : Nat} {done : Array Bool} {a : Act} {w : World} (hi : ops[i]? = some oi) (hs : Region.noSelect ops = true)
    (hf : Region.free .any ops done i = true) (hr : (Region.ready .any ops done).contains i = true) (hw : Region.waitsFor .any ops m i = true)
    (hQ : ∀ c a w, Q (.panic c) (a.put oi.dst v) w → Q (.panic c) a w) (hy : YieldsIf P ops S oi v a) (hS : S w)
    (h : butLast P ops Q S m n (done.setIfInBounds i true) (a.put oi.dst v) w) : butLast P ops Q S m (n + 1) done a w :=
  butLast_first hi (Region.noSelect_spec hs) hw hQ n done a w (Region.free_spec hi hf) (by simpa using hr) hy hS h
/-- Only one may come up. -/
theorem butLast_one {i n : Nat} {o : Oper} {done : Array Bool} {a : Act} {w : World} (ho : ops[i]? = some o) (hr : Region.ready .any ops done = [i])
    (h : ∀ K : Act → World → Prop, (∀ a' w', (i = m ∨ S w') → butLast P ops Q S m n (done.setIfInBounds i true) a' w' → K a' w') → if Region.wanted o (yielded ops a.tmps) = true then Oper.wp P o a w K Q else K (a.put o.dst undef) w) :
    butLast P ops Q S m (n + 1) done a w := by
  refine ⟨fun z => (by rw [z] at hr; cases hr), fun j hj => ?_⟩
  rw [hr, List.mem_singleton] at hj
  rw [hj]
  exact wpOp_step ho fun K hK => h K fun a' w' h1 h2 => hK a' w' ⟨h1, h2⟩
theorem butLast_end {done : Array Bool} {a : Act} {w : World} {n : Nat} (hr : Region.ready .any ops done = []) (h : Q .normal a w) : butLast P ops Q S m n done a w := by
  cases n with
  | zero => exact ⟨hr, h⟩
  | succ n => exact ⟨fun _ => h, by rw [hr]; simp⟩
theorem wp_region_last (S : World → Prop) (m : Nat) {id : Nat} {a : Act} {w : World} (hm : P.follows .mixedOrders = true) (h : butLast P ops Q S m ops.size (Array.replicate ops.size false) a w.drew) : (Code.region id ops true).wp P Q a w :=
  wp_region_any hm (butLast_any _ _ _ _ h)
end
end Go.Proofs.Ytmgidcigihpbeaa
/-
  Bytes behind a byte: the code that a second draw is made of.
-/
namespace Go.Proofs.Ytmgidcigihpbeaa
open Go.ChangeShapes Go.WideShapes Go.ChangeAt Go.RowKit Go.Sort
def DAt (w : World) (b off : Nat) (l : List UInt8) : Prop := ∀ (i : Nat) c, l[i]? = some c → w.cell? ⟨b, off + i, none⟩ = some (.int .u8 (c.toNat : Int))
theorem DAt.keep {w w' : World} {b off : Nat} {l : List UInt8} (h : DAt w b off l) (hb : Below w.heap.size w w') : DAt w' b off l := by
  intro i c hc
  have := h i c hc
  rw [hb.cell (block_lt_of_cell this)]; exact this
def DIn (w : World) (a : Option Addr) (l : List UInt8) : Prop := l = [] ∨ ∃ b off, a = some ⟨b, off, none⟩ ∧ DAt w b off l
theorem DIn.keep {w w' : World} {a : Option Addr} {l : List UInt8} (h : DIn w a l) (hb : Below w.heap.size w w') : DIn w' a l := by
  rcases h with h | ⟨b, off, e, h⟩
  · exact .inl h
  · exact .inr ⟨b, off, e, h.keep hb⟩
theorem dByteI : (Try.prog.info? 5).map (fun i => (i.zero, i.size, i.bytes)) = some (some (.int .u8 0), 1, 1) := by kernel_rfl
def dBytes (l : List UInt8) : List Value := l.map fun c => Value.int .u8 (c.toNat : Int)
theorem dadd (b off j : Nat) : (⟨b, off, none⟩ : Addr).add j = ⟨b, off + j, none⟩ := by unfold Addr.add; split <;> simp_all
theorem dBytes_in {w : World} {a : Option Addr} {l : List UInt8} (h : DIn w a l) : l.length = 0 ∨ ∃ ad, a = some ad ∧ ∀ j u, (dBytes l)[j]? = some u → w.cell? (ad.add j) = some u := by
  rcases h with rfl | ⟨b, off, rfl, h⟩
  · exact .inl rfl
  · refine .inr ⟨_, rfl, fun j u hj => ?_⟩
    unfold dBytes at hj
    rw [List.getElem?_map] at hj
    obtain ⟨c, hc, rfl⟩ := Option.map_eq_some_iff.1 hj
    rw [dadd]
    exact h j c hc
theorem dOneB (l : List UInt8) : ∀ u ∈ dBytes l, u.oneCell' = true := fun u hu => by obtain ⟨c, _, rfl⟩ := List.mem_map.1 hu; rfl
end Go.Proofs.Ytmgidcigihpbeaa
/-
  The draw of a breaker, bent: l10Bent.
-/
namespace Go.Proofs.Ytmgidcigihpbeaa
open Go.ChangeShapes Go.WideShapes Go.ChangeAt Go.RowKit Go.Sort
theorem S4.go {w w' : World} {b : Nat} {v0 v1 v2 v3 : Value} {g : Option Nat} (k : S4 w b v0 v1 v2 v3) (h : w.grownBy w' g) (hb : g ≠ Option.some b) : S4 w' b v0 v1 v2 v3 := by
  have e : w'.heap[b]? = w.heap[b]? := h.block b k.lt (fun q => hb q.symm)
  exact ⟨by rw [World.cell?_of_block (w := w) e]; exact k.c0, by rw [World.cell?_of_block (w := w) e]; exact k.c1, by rw [World.cell?_of_block (w := w) e]; exact k.c2, by rw [World.cell?_of_block (w := w) e]; exact k.c3, fun o => by rw [World.frozen?_of_block (w := w) e]; exact k.fr o, Nat.lt_of_lt_of_le k.lt h.size⟩
theorem S5.go {w w' : World} {b : Nat} {v0 v1 v2 v3 v4 : Value} {g : Option Nat} (k : S5 w b v0 v1 v2 v3 v4) (h : w.grownBy w' g) (hb : g ≠ Option.some b) : S5 w' b v0 v1 v2 v3 v4 := by
  have e : w'.heap[b]? = w.heap[b]? := h.block b k.lt (fun q => hb q.symm)
  exact ⟨by rw [World.cell?_of_block (w := w) e]; exact k.c0, by rw [World.cell?_of_block (w := w) e]; exact k.c1, by rw [World.cell?_of_block (w := w) e]; exact k.c2, by rw [World.cell?_of_block (w := w) e]; exact k.c3, by rw [World.cell?_of_block (w := w) e]; exact k.c4, fun o => by rw [World.frozen?_of_block (w := w) e]; exact k.fr o, Nat.lt_of_lt_of_le k.lt h.size⟩
theorem S4.ap {B : Nat} {w w' : World} {b : Nat} {v0 v1 v2 v3 : Value} (k : S4 w b v0 v1 v2 v3) (ha : Apart B w w') (hn : b ≠ B) : S4 w' b v0 v1 v2 v3 :=
  ⟨by rw [ha.cell _ _ k.lt hn]; exact k.c0, by rw [ha.cell _ _ k.lt hn]; exact k.c1, by rw [ha.cell _ _ k.lt hn]; exact k.c2, by rw [ha.cell _ _ k.lt hn]; exact k.c3, fun o => by rw [ha.frozen _ _ k.lt hn]; exact k.fr o, Nat.lt_of_lt_of_le k.lt ha.size⟩
theorem S5.ap {B : Nat} {w w' : World} {b : Nat} {v0 v1 v2 v3 v4 : Value} (k : S5 w b v0 v1 v2 v3 v4) (ha : Apart B w w') (hn : b ≠ B) : S5 w' b v0 v1 v2 v3 v4 :=
  ⟨by rw [ha.cell _ _ k.lt hn]; exact k.c0, by rw [ha.cell _ _ k.lt hn]; exact k.c1, by rw [ha.cell _ _ k.lt hn]; exact k.c2, by rw [ha.cell _ _ k.lt hn]; exact k.c3, by rw [ha.cell _ _ k.lt hn]; exact k.c4, fun o => by rw [ha.frozen _ _ k.lt hn]; exact k.fr o, Nat.lt_of_lt_of_le k.lt ha.size⟩
theorem OwnMk.offne {B : Nat} {w w' : World} {base : Nat} {v : Value} {l : List Mk} (h : OwnMk w base v l) (k : w.grownBy w' (Option.some B)) (hne : ∀ g, v.ownBlock = Option.some g → g ≠ B) : OwnMk w' base v l := World.ownsRow.kept h k (by
  cases e : v.ownBlock with
  | none => exact .inl rfl
  | some q => right; intro e2; exact hne q e (Option.some.inj e2))
/-- What is held while a breaker is bent. -/
structure DN (w X : World) (N SB R B base : Nat) (a0 a1 a2 a3 a4 : Int) (a : Option Addr) (len cap k : Nat) (s t o : Int) (va : Option Addr) (n vc : Nat) (l : List Mk) : Prop where
  sr : Src X SB a len cap k
  q0 : S4 X N (.int .i64 0) (.int .i64 0) (.int .i64 0) (.slice none 0 0)
  q1 : S5 X (N + 1) (.int .i64 0) (.int .i64 0) (.int .i64 0) (.int .i64 0) (.int .i64 0)
  rl : S5 X R (.int .i64 a0) (.int .i64 a1) (.int .i64 a2) (.int .i64 a3) (.int .i64 a4)
  bb : S4 X B (.int .i64 s) (.int .i64 t) (.int .i64 o) (.slice va n vc)
  ow : OwnMk X base (.slice va n vc) l
  ob : ∀ g, (Value.slice va n vc).ownBlock = some g → g ≠ B
  ln : l.length = n
  lo : Below N w X
  lt : SB = N + 2 ∧ SB < R ∧ R < base ∧ base ≤ B
section
variable {w X Y : World} {N SB R B base : Nat} {a0 a1 a2 a3 a4 : Int} {a : Option Addr} {len cap k : Nat} {s t o : Int} {va : Option Addr} {n vc : Nat} {l : List Mk}
theorem DN.step {k' : Nat} (h : DN w X N SB R B base a0 a1 a2 a3 a4 a len cap k s t o va n vc l) (hs : Src Y SB a len cap k') (hb : Below SB X Y) (ha : ApartH SB X Y) : DN w Y N SB R B base a0 a1 a2 a3 a4 a len cap k' s t o va n vc l := by
  obtain ⟨e, l1, l2, l3⟩ := h.lt
  exact ⟨hs, h.q0.ah ha (by omega), h.q1.ah ha (by omega), h.rl.ah ha (by omega), h.bb.ah ha (by omega), h.ow.apart ha (by omega), h.ob, h.ln, h.lo.trans (hb.mono (by omega)), e, l1, l2, l3⟩
theorem DN.keep (h : DN w X N SB R B base a0 a1 a2 a3 a4 a len cap k s t o va n vc l) (hb : Below X.heap.size X Y) : DN w Y N SB R B base a0 a1 a2 a3 a4 a len cap k s t o va n vc l :=
  ⟨h.sr.below (hb.mono h.sr.lt), h.q0.keep hb, h.q1.keep hb, h.rl.keep hb, h.bb.keep hb, h.ow.below hb, h.ob, h.ln, h.lo.trans (hb.mono (Nat.le_of_lt h.q0.lt)), h.lt⟩
theorem DN.bset {i : Nat} {y : Value} {s' t' o' : Int} (h : DN w X N SB R B base a0 a1 a2 a3 a4 a len cap k s t o va n vc l) (hb : S4 (X.setCell ⟨B, i, none⟩ y) B (.int .i64 s') (.int .i64 t') (.int .i64 o') (.slice va n vc)) : DN w (X.setCell ⟨B, i, none⟩ y) N SB R B base a0 a1 a2 a3 a4 a len cap k s' t' o' va n vc l := by
  obtain ⟨e, l1, l2, l3⟩ := h.lt
  exact ⟨src_off h.sr (by omega), h.q0.off (by omega), h.q1.off (by omega), h.rl.off (by omega), hb, h.ow.offne (gbSet _ _ _ _) h.ob, h.ob, h.ln, h.lo.setCell (by simp; omega) _, e, l1, l2, l3⟩
theorem DN.s0 (h : DN w X N SB R B base a0 a1 a2 a3 a4 a len cap k s t o va n vc l) (y : Int) : DN w (X.setCell ⟨B, 0, none⟩ (.int .i64 y)) N SB R B base a0 a1 a2 a3 a4 a len cap k y t o va n vc l := h.bset (h.bb.set0 _)
theorem DN.s1 (h : DN w X N SB R B base a0 a1 a2 a3 a4 a len cap k s t o va n vc l) (y : Int) : DN w (X.setCell ⟨B, 1, none⟩ (.int .i64 y)) N SB R B base a0 a1 a2 a3 a4 a len cap k s y o va n vc l := h.bset (h.bb.set1 _)
theorem DN.s2 (h : DN w X N SB R B base a0 a1 a2 a3 a4 a len cap k s t o va n vc l) (y : Int) : DN w (X.setCell ⟨B, 2, none⟩ (.int .i64 y)) N SB R B base a0 a1 a2 a3 a4 a len cap k s t y va n vc l := h.bset (h.bb.set2 _)
theorem DN.push {g n' vc' : Nat} {l' : List Mk} (h : DN w X N SB R B base a0 a1 a2 a3 a4 a len cap k s t o va n vc l) (h1 : OwnMk Y base (.slice (some ⟨g, 0, none⟩) n' vc') l') (hn : l'.length = n') (h2 : X.grownBy Y (Value.slice va n vc).ownBlock) (h3 : (Value.slice va n vc).ownBlock = some g ∨ g = X.heap.size) : DN w (Y.setCell ⟨B, 3, none⟩ (.slice (some ⟨g, 0, none⟩) n' vc')) N SB R B base a0 a1 a2 a3 a4 a len cap k s t o (some ⟨g, 0, none⟩) n' vc' l' ∧ S4 Y B (.int .i64 s) (.int .i64 t) (.int .i64 o) (.slice va n vc) := by
  obtain ⟨e, l1, l2, l3⟩ := h.lt
  have hx := h.bb.lt
  have hge : ∀ q, (Value.slice va n vc).ownBlock = some q → base ≤ q ∧ q ≠ B := fun q hq => ⟨row_ge h.ow q hq, h.ob q hq⟩
  have hgB : g ≠ B := by
    rcases h3 with h3 | h3
    · exact (hge g h3).2
    · omega
  have ne : ∀ b, b < base ∨ b = B → (Value.slice va n vc).ownBlock ≠ some b := fun b hb q => by have := hge b q; omega
  have bl : ∀ m, m ≤ base → Below m X Y := fun m hm => ⟨h2.os, h2.tape, h2.output, h2.size, fun b hb => h2.block b (by omega) (fun q => ne b (.inl (by omega)) q.symm)⟩
  have b4 := h.bb.go h2 (ne B (.inr rfl))
  refine ⟨⟨src_off (h.sr.below (bl _ (by omega))) (by omega), (h.q0.go h2 (ne _ (.inl (by omega)))).off (by omega), (h.q1.go h2 (ne _ (.inl (by omega)))).off (by omega), (h.rl.go h2 (ne _ (.inl (by omega)))).off (by omega), b4.set3 _, h1.offne (gbSet _ _ _ _) ?_, ?_, hn, (h.lo.trans (bl _ (by omega))).setCell (by simp; omega) _, e, l1, l2, l3⟩, b4⟩
  · intro q hq; simp only [Value.ownBlock, Option.some.injEq] at hq; omega
  · intro q hq; simp only [Value.ownBlock, Option.some.injEq] at hq; omega
theorem DN.rset {y0 y1 y2 y3 y4 : Int} (h : DN w X N SB R B base a0 a1 a2 a3 a4 a len cap k s t o va n vc l) : DN w (((((X.setCell ⟨R, 0, none⟩ (.int .i64 y0)).setCell ⟨R, 1, none⟩ (.int .i64 y1)).setCell ⟨R, 2, none⟩ (.int .i64 y2)).setCell ⟨R, 3, none⟩ (.int .i64 y3)).setCell ⟨R, 4, none⟩ (.int .i64 y4)) N SB R B base y0 y1 y2 y3 y4 a len cap k s t o va n vc l := by
  obtain ⟨e, l1, l2, l3⟩ := h.lt
  have hR : R ≠ B := by omega
  exact ⟨src_off (src_off (src_off (src_off (src_off h.sr l1) l1) l1) l1) l1, ((((h.q0.off (by omega)).off (by omega)).off (by omega)).off (by omega)).off (by omega), ((((h.q1.off (by omega)).off (by omega)).off (by omega)).off (by omega)).off (by omega), ((((h.rl.set0 _).set1 _).set2 _).set3 _).set4 _, ((((h.bb.off hR).off hR).off hR).off hR).off hR, ((((h.ow.offB (gbSet _ _ _ _) l2).offB (gbSet _ _ _ _) l2).offB (gbSet _ _ _ _) l2).offB (gbSet _ _ _ _) l2).offB (gbSet _ _ _ _) l2, h.ob, h.ln, ((((h.lo.setCell (by simp; omega) _).setCell (by simp; omega) _).setCell (by simp; omega) _).setCell (by simp; omega) _).setCell (by simp; omega) _, e, l1, l2, l3⟩
/-- What is told of the end. -/
structure FinP (w X : World) (N SB : Nat) (a : Option Addr) (len cap k : Nat) (va : Option Addr) (n vc : Nat) (l : List Mk) : Prop where
  ow : OwnMk X (SB + 1) (.slice va n vc) l
  sr : Src X SB a len cap k
  lo : Below N w X
  cr : CodeRow w N a len
  hN : N + 2 ≤ SB
theorem DN.fin (h : DN w X N SB R B base a0 a1 a2 a3 a4 a len cap k s t o va n vc l) (hc : CodeRow w N a len) : FinP w X N SB a len cap k va n vc l := by
  obtain ⟨e, l1, l2, l3⟩ := h.lt
  exact ⟨h.ow.lower (by omega), h.sr, h.lo, hc, by omega⟩
theorem FinP.set {b i : Nat} {y : Value} (h : FinP w X N SB a len cap k va n vc l) (hb : b = N ∨ b = N + 1) : FinP w (X.setCell ⟨b, i, none⟩ y) N SB a len cap k va n vc l := by
  have := h.hN
  have lo' := h.lo.setCell (p := ⟨b, i, none⟩) (by simp; omega) y
  have ne : ∀ j : Nat, (⟨b, i, none⟩ : Addr) ≠ ⟨SB, j, none⟩ := fun j e => by have := congrArg Addr.block e; simp at this; omega
  exact ⟨h.ow.offB (gbSet _ _ _ _) (by omega), ⟨by rw [World.cell?_setCell_other _ _ _ _ (ne 0)]; exact h.sr.c0, by rw [World.cell?_setCell_other _ _ _ _ (ne 1)]; exact h.sr.c1, by rw [World.frozen?_setCell]; exact h.sr.f1, (h.cr.below lo').mono (by omega)⟩, lo', h.cr, h.hN⟩
theorem FinP.drw (h : FinP w X N SB a len cap k va n vc l) : FinP w X.drew N SB a len cap k va n vc l := ⟨h.ow.below (Below.refl _ _).drew, h.sr.drew, h.lo.drew, h.cr, h.hN⟩
end
/-- A breaker, its rules, a time and the source behind them. -/
def BentB (w w' : World) (N : Nat) (a : Option Addr) (len cap : Nat) (e : Ending) : Prop := ∃ (s t o now a0 a1 a2 a3 a4 : Int) (va : Option Addr) (n vc : Nat) (l : List Mk) (k : Nat), e = .returned (.tuple #[.agg #[.int .i64 s, .int .i64 t, .int .i64 o, .slice va n vc], .agg #[.int .i64 a0, .int .i64 a1, .int .i64 a2, .int .i64 a3, .int .i64 a4], .int .i64 now, .pointer (some ⟨N + 2, 0, none⟩)]) ∧ l.length = n ∧ n ≤ 61 ∧ (0 ≤ now ∧ now ≤ 35000) ∧ k ≤ 300 ∧ FinP w w' N (N + 2) a len cap k va n vc l
theorem BentB.mk {w w' : World} {N : Nat} {a : Option Addr} {len cap : Nat} {s t o now a0 a1 a2 a3 a4 : Int} {va : Option Addr} {n vc : Nat} {l : List Mk} {k : Nat} (h1 : l.length = n) (h2 : n ≤ 61) (h3 : 0 ≤ now ∧ now ≤ 35000) (h4 : k ≤ 300) (h5 : FinP w w' N (N + 2) a len cap k va n vc l) : BentB w w' N a len cap (.returned (.tuple #[.agg #[.int .i64 s, .int .i64 t, .int .i64 o, .slice va n vc], .agg #[.int .i64 a0, .int .i64 a1, .int .i64 a2, .int .i64 a3, .int .i64 a4], .int .i64 now, .pointer (some ⟨N + 2, 0, none⟩)])) := ⟨s, t, o, now, a0, a1, a2, a3, a4, va, n, vc, l, k, rfl, h1, h2, h3, h4, h5⟩
theorem bytes_of_code {w : World} {B : Nat} {a : Option Addr} {len : Nat} (h : CodeRow w B a len) : ∃ l : List UInt8, l.length = len ∧ DIn w a l := by
  rcases h with h | ⟨b, off, rfl, hlt, f, hf⟩
  · exact ⟨[], h.symm, .inl rfl⟩
  · refine ⟨(List.range len).map fun i => UInt8.ofNat (f i).toNat, by simp, .inr ⟨b, off, rfl, fun i u hu => ?_⟩⟩
    rw [List.getElem?_map, Option.map_eq_some_iff] at hu
    obtain ⟨j, hj, rfl⟩ := hu
    obtain ⟨hlt2, rfl⟩ := List.getElem?_eq_some_iff.1 hj
    simp only [List.length_range] at hlt2
    simp only [List.getElem_range]
    obtain ⟨e, p0, p1⟩ := hf i hlt2
    rw [e]
    have : (UInt8.ofNat (f i).toNat).toNat = (f i).toNat := by rw [UInt8.toNat_ofNat']; omega
    rw [this, Int.toNat_of_nonneg p0]
theorem code_of_row {w : World} {base : Nat} {va : Option Addr} {m vc : Nat} {l : List UInt8} (hl : l.length = m) (h : w.ownsRow base 5 1 (.slice va m vc) m (dBytes l)) : CodeRow w w.heap.size va m := by
  by_cases h0 : m = 0
  · exact .inl h0
  · have hx := h
    obtain ⟨_, h1 | ⟨g, c, cur, e, hg, hh, _⟩⟩ := h
    · exact absurd h1.2 h0
    · simp only [Value.slice.injEq] at e
      obtain ⟨rfl, _, rfl⟩ := e
      refine .inr ⟨g, 0, rfl, (Array.getElem?_eq_some_iff.1 hh).1, fun i => ((l.getD i 0).toNat : Int), fun i hi => ?_⟩
      have c0 := World.ownsRow.cellAt hx i (by omega)
      rw [Nat.zero_add, c0]
      have hi2 : i < l.length := by omega
      refine ⟨?_, by show (0 : Int) ≤ ((l.getD i 0).toNat : Int); omega, ?_⟩
      · simp [dBytes, List.getElem?_eq_getElem hi2]
      · have := (l.getD i 0).toNat_lt; show ((l.getD i 0).toNat : Int) ≤ 255; omega
noncomputable def lenOf (X : World) (B : Nat) : Nat := match X.cell? ⟨B, 3, none⟩ with
  | some (.slice _ n _) => n
  | _ => 0
theorem lenOf_eq {X : World} {B n vc : Nat} {va : Option Addr} (h : X.cell? ⟨B, 3, none⟩ = some (.slice va n vc)) : lenOf X B = n := by unfold lenOf; rw [h]
def SBR (Z : World) (B R : Nat) (s t o : Int) (va : Option Addr) (n vc : Nat) (a0 a1 a2 a3 a4 : Int) : Prop := Z.cell? ⟨B, 0, none⟩ = some (.int .i64 s) ∧ Z.cell? ⟨B, 1, none⟩ = some (.int .i64 t) ∧ Z.cell? ⟨B, 2, none⟩ = some (.int .i64 o) ∧ Z.cell? ⟨B, 3, none⟩ = some (.slice va n vc) ∧ Z.cell? ⟨R, 0, none⟩ = some (.int .i64 a0) ∧ Z.cell? ⟨R, 1, none⟩ = some (.int .i64 a1) ∧ Z.cell? ⟨R, 2, none⟩ = some (.int .i64 a2) ∧ Z.cell? ⟨R, 3, none⟩ = some (.int .i64 a3) ∧ Z.cell? ⟨R, 4, none⟩ = some (.int .i64 a4)
theorem SBR.off {Z : World} {B R M i : Nat} {y : Value} {s t o : Int} {va : Option Addr} {n vc : Nat} {a0 a1 a2 a3 a4 : Int} (h : SBR Z B R s t o va n vc a0 a1 a2 a3 a4) (h1 : ¬ M = B) (h2 : ¬ M = R) : SBR (Z.setCell ⟨M, i, none⟩ y) B R s t o va n vc a0 a1 a2 a3 a4 := by
  have e1 : ∀ j : Nat, (Z.setCell ⟨M, i, none⟩ y).cell? ⟨B, j, none⟩ = Z.cell? ⟨B, j, none⟩ := fun j => World.cell?_setCell_other _ _ _ _ (fun e => h1 (congrArg Addr.block e))
  have e2 : ∀ j : Nat, (Z.setCell ⟨M, i, none⟩ y).cell? ⟨R, j, none⟩ = Z.cell? ⟨R, j, none⟩ := fun j => World.cell?_setCell_other _ _ _ _ (fun e => h2 (congrArg Addr.block e))
  unfold SBR
  simp only [e1, e2]
  exact h
set_option linter.unusedSimpArgs false in
set_option maxRecDepth 100000 in
set_option maxHeartbeats 32000000 in
theorem l10Bent_any (w : World) (a : Option Addr) (len cap : Nat) (N : Nat) (hN : w.heap.size = N) (hc : CodeRow w N a len) (hl3 : len ≤ 1048576) :
    Calls Try.prog 61 #[.slice a len cap] w fun e w' => BentB w w' N a len cap e := by
  have hl2 : len ≤ 1048577 := by omega
  have HC := rulQ hc
  obtain ⟨i0, hi0, hz0, hz1, hz2⟩ := info_parts dByteI
  have HI0 := rulQ hi0
  have HZ0 := rulQ hz0
  have HZ1 := rulQ hz1
  have HZ2 := rulQ hz2
  clear hi0 hz0 hz1 hz2
  obtain ⟨V1, hV1⟩ : ∃ V, V = w.alloc (.cells #[.int .i64 0, .int .i64 0, .int .i64 0, .slice none 0 0] 51) := ⟨_, rfl⟩
  obtain ⟨V2, hV2⟩ : ∃ V, V = V1.alloc (.cells #[.int .i64 0, .int .i64 0, .int .i64 0, .int .i64 0, .int .i64 0] 53) := ⟨_, rfl⟩
  have z1 : V1.heap.size = N + 1 := by rw [hV1, ← hN]; simp
  have z2 : V2.heap.size = N + 2 := by rw [hV2]; simp [z1]
  have b1 : Below w.heap.size w V1 := by rw [hV1]; exact (Below.refl _ _).alloc (Nat.le_refl _) _
  have b2 : Below V1.heap.size V1 V2 := by rw [hV2]; exact (Below.refl _ _).alloc (Nat.le_refl _) _
  have b12 : Below N w V2 := by rw [← hN]; exact b1.trans (b2.mono b1.size)
  have q0 : S4 V2 N (.int .i64 0) (.int .i64 0) (.int .i64 0) (.slice none 0 0) := by
    have := S4.new w (.int .i64 0) (.int .i64 0) (.int .i64 0) (.slice none 0 0) 51
    rw [← hV1, hN] at this
    exact this.keep b2
  have q1 : S5 V2 (N + 1) (.int .i64 0) (.int .i64 0) (.int .i64 0) (.int .i64 0) (.int .i64 0) := by
    have := S5.new V1 (.int .i64 0) (.int .i64 0) (.int .i64 0) (.int .i64 0) (.int .i64 0) 53
    rw [← hV2, z1] at this
    exact this
  have HSR : Hid (Calls Try.prog 78 #[.slice a len cap] V2 fun e w' => e = .returned (.pointer (some ⟨N + 2, 0, none⟩)) ∧ Src w' (N + 2) a len cap 0 ∧ Below (N + 2) V2 w') := by
    have := l1Source_any V2 a len cap ((hc.below b12).mono (by omega))
    rw [z2] at this
    exact this
  have HB := rulQ b12
  have HQ := rulQ (show S4 V2 N (.int .i64 0) (.int .i64 0) (.int .i64 0) (.slice none 0 0) ∧ S5 V2 (N + 1) (.int .i64 0) (.int .i64 0) (.int .i64 0) (.int .i64 0) (.int .i64 0) from ⟨q0, q1⟩)
  have HV1 := rulQ hV1
  have HV2 := rulQ hV2
  clear b1 b2 b12 q0 q1 hV1 hV2 hc z1 z2
  go_enter Try.func61, Try.ntmps61
  go_upto_region 1 with fail
  rw [← HV1.out, ← HV2.out]
  clear HV1 HV2
  go_wp2_with fail
  refine HSR.out.mono ?_
  rintro r w1 ⟨rfl, hs1, hb1⟩
  have HX1 := rulQ (show Src w1 (N + 2) a len cap 0 ∧ S4 w1 N (.int .i64 0) (.int .i64 0) (.int .i64 0) (.slice none 0 0) ∧ S5 w1 (N + 1) (.int .i64 0) (.int .i64 0) (.int .i64 0) (.int .i64 0) (.int .i64 0) ∧ Below N w w1 from ⟨hs1, HQ.out.1.low hb1 (by omega), HQ.out.2.low hb1 (by omega), HB.out.trans (hb1.mono (by omega))⟩)
  clear hs1 hb1 HSR HB HQ
  go_wp2_with fail
  refine (l10RulesR_any _ (N + 2) a len cap 0 HX1.out.1 (by omega) hl2).mono ?_
  rintro r w2 ⟨⟨a0, a1, a2, a3, a4, rfl, hru⟩, hs2, hb2, ha2⟩
  obtain ⟨R, hR⟩ : ∃ R, w2.heap.size = R := ⟨_, rfl⟩
  have hlt2 : N + 2 < R := by rw [← hR]; exact hs2.lt
  have HRU := rulQ hru
  obtain ⟨V3, hV3⟩ : ∃ V, V = w2.alloc (.cells #[.int .i64 a0, .int .i64 a1, .int .i64 a2, .int .i64 a3, .int .i64 a4] 53) := ⟨_, rfl⟩
  have b3 : Below w2.heap.size w2 V3 := by rw [hV3]; exact (Below.refl _ _).alloc (Nat.le_refl _) _
  have s3 : S5 V3 R (.int .i64 a0) (.int .i64 a1) (.int .i64 a2) (.int .i64 a3) (.int .i64 a4) := by rw [hV3, ← hR]; exact S5.new w2 _ _ _ _ _ _
  have z3 : V3.heap.size = R + 1 := by rw [hV3, ← hR]; simp
  have HX3 := rulQ (show Src V3 (N + 2) a len cap 5 ∧ S4 V3 N (.int .i64 0) (.int .i64 0) (.int .i64 0) (.slice none 0 0) ∧ S5 V3 (N + 1) (.int .i64 0) (.int .i64 0) (.int .i64 0) (.int .i64 0) (.int .i64 0) ∧ Below N w V3 ∧ S5 V3 R (.int .i64 a0) (.int .i64 a1) (.int .i64 a2) (.int .i64 a3) (.int .i64 a4) from ⟨hs2.below (b3.mono hs2.lt), (HX1.out.2.1.ap ha2 (by omega)).keep b3, (HX1.out.2.2.1.ap ha2 (by omega)).keep b3, (HX1.out.2.2.2.trans (hb2.mono (by omega))).trans (b3.mono (by omega)), s3⟩)
  have HZ3 := rulQ z3
  have HV3 := rulQ hV3
  have HD : Hid (Calls Try.prog 86 #[.pointer (some ⟨N + 2, 0, none⟩), .pointer (some ⟨R, 0, none⟩)] V3 fun e w' => DrawnB V3 w' (R + 1) (N + 2) a len cap 5 e) := l10Draw_any V3 (N + 2) R a0 a1 a2 a3 a4 a len cap 5 HX3.out.1 HX3.out.2.2.2.2 (by omega) HRU.out (by omega) hl2 (R + 1) z3
  clear hs2 hb2 ha2 hru b3 s3 z3 hV3 HX1
  go_upto_region 3 with fail
  rw [← HV3.out]
  try simp only [hR]
  clear HV3 hR
  go_wp2_with fail
  refine HD.out.mono ?_
  rintro r w3 ⟨s, t, o, now, va, n, vc, l, rfl, hln, hn60, hnow, how, ⟨k1, hk1, hs3⟩, hb3, ha3⟩
  obtain ⟨B, hB⟩ : ∃ B, w3.heap.size = B := ⟨_, rfl⟩
  obtain ⟨V4, hV4⟩ : ∃ V, V = w3.alloc (.cells #[.int .i64 s, .int .i64 t, .int .i64 o, .slice va n vc] 51) := ⟨_, rfl⟩
  have b4 : Below w3.heap.size w3 V4 := by rw [hV4]; exact (Below.refl _ _).alloc (Nat.le_refl _) _
  have s4 : S4 V4 B (.int .i64 s) (.int .i64 t) (.int .i64 o) (.slice va n vc) := by rw [hV4, ← hB]; exact S4.new w3 _ _ _ _ _
  have hRB : R + 1 ≤ B := by rw [← hB, ← HZ3.out]; exact ha3.size
  have J0 : Hid (DN w V4 N (N + 2) R B (R + 1) a0 a1 a2 a3 a4 a len cap k1 s t o va n vc l) := by
    refine ⟨hs3.below (b4.mono hs3.lt), (HX3.out.2.1.ah ha3 (by omega)).keep b4, (HX3.out.2.2.1.ah ha3 (by omega)).keep b4, (HX3.out.2.2.2.2.ah ha3 (by omega)).keep b4, s4, how.below b4, fun g hg => ?_, hln, (HX3.out.2.2.2.1.trans (hb3.mono (by omega))).trans (b4.mono (by omega)), rfl, hlt2, by omega, hRB⟩
    have := (World.ownsRow.lt how g hg).2
    omega
  have HV4 := rulQ hV4
  have hk1' : k1 ≤ 205 := by omega
  clear hs3 hb3 ha3 how hln b4 s4 hV4 HX3 HZ3 HD HRU
  go_upto_region 4 with fail
  rw [← HV4.out]
  try simp only [hB]
  clear HV4 hB
  obtain ⟨SB, hSB⟩ : ∃ SB, N + 2 = SB := ⟨_, rfl⟩
  rw [hSB] at J0
  simp only [hSB]
  go_wp2_with fail
  refine (l1Next_h _ SB a len cap k1 18 J0.out.sr (by omega) (by omega) (by omega) hl2).mono ?_
  rintro r w5 ⟨⟨v, v0, v1, rfl⟩, hs1, hb1, ha1⟩
  have J1 := hid12 (J0.out.step hs1 hb1 ha1)
  clear hs1 hb1 ha1 J0
  have HSB : Hid (N + 2 = SB) := hSB
  clear hSB
  go_upto_block 0 with fail
  have hnw : 0 ≤ now ∧ now ≤ 35000 := hnow
  have w50 : IntKind.i64.wrap (now + 50) = now + 50 := by rw [IntKind.wrap_i64]; omega
  have w01 : IntKind.i64.wrap (now + 1) = now + 1 := by rw [IntKind.wrap_i64]; omega
  go_cut [] from 21 to 66 (fun wx => ∃ (s t o : Int) (va : Option Addr) (n vc : Nat) (l : List Mk) (k : Nat), n ≤ 61 ∧ k ≤ 210 ∧ DN w wx N SB R B (R + 1) a0 a1 a2 a3 a4 a len cap k s t o va n vc l)
  case first =>
    have n0 : ¬ v = 0 → (v == 0) = false := fun h => by simpa using h
    have n1 : ¬ v = 1 → (v == 1) = false := fun h => by simpa using h
    have n2 : ¬ v = 2 → (v == 2) = false := fun h => by simpa using h
    have n3 : ¬ v = 3 → (v == 3) = false := fun h => by simpa using h
    have n4 : ¬ v = 4 → (v == 4) = false := fun h => by simpa using h
    by_cases hv0 : v = 0
    · subst hv0
      clear n0 n1 n2 n3 n4
      go_wp2_with fail
      refine (l1Pick_h _ SB a len cap (k1 + 1) J1.out.sr [3, -1, 1, 2, 0] 5 rfl (by omega) (by omega) (by omega) hl2).mono ?_
      rintro r w6 ⟨⟨x, _, rfl⟩, hs1, hb1, ha1⟩
      have J2 := hid12 (J1.out.step hs1 hb1 ha1)
      clear hs1 hb1 ha1 J1
      have J3 := hid12 (J2.out.s0 x)
      obtain ⟨c0, c1, c2, c3, fr, _⟩ := J2.out.bb
      have f0 := fr 0
      have f1 := fr 1
      have f2 := fr 2
      clear fr J2
      go_wp2_with fail
      go_meet
      exact ⟨_, _, _, va, n, vc, l, k1 + 2, by omega, by omega, J3.out⟩
    by_cases hv1 : v = 1
    · subst hv1
      have z0 := n0 (by omega)
      clear n0 n1 n2 n3 n4
      go_wp2_with fail
      refine (l1Pick_h _ SB a len cap (k1 + 1) J1.out.sr [6, -1, 1] 3 rfl (by omega) (by omega) (by omega) hl2).mono ?_
      rintro r w6 ⟨⟨x, _, rfl⟩, hs1, hb1, ha1⟩
      have J2 := hid12 (J1.out.step hs1 hb1 ha1)
      clear hs1 hb1 ha1 J1
      have J3 := hid12 (J2.out.s2 x)
      obtain ⟨c0, c1, c2, c3, fr, _⟩ := J2.out.bb
      have f0 := fr 0
      have f1 := fr 1
      have f2 := fr 2
      clear fr J2
      go_wp2_with fail
      go_meet
      exact ⟨_, _, _, va, n, vc, l, k1 + 2, by omega, by omega, J3.out⟩
    by_cases hv2 : v = 2
    · subst hv2
      have z0 := n0 (by omega)
      have z1 := n1 (by omega)
      clear n0 n1 n2 n3 n4
      go_wp2_with fail
      have HKS : Hid (∀ X, S4 X B (.int .i64 s) (.int .i64 t) (.int .i64 o) (.slice va n vc) → X.cell? ⟨B, 3, none⟩ = some (.slice va n vc)) := fun X h => h.c3
      have JD := hid12 (J1.out.keep (Below.refl _ _).drew)
      have HS0 := hid12 (HKS.out _ JD.out.bb)
      refine wp_region_last (fun X : World => X.cell? ⟨B, 3, none⟩ = some (.slice va n vc)) 11 (by kernel_rfl) ?_
      refine butLast_take (i := 0) (v := .pointer (some ⟨B, 3, none⟩)) rfl (by kernel_rfl) (by kernel_rfl) (by kernel_rfl) (by kernel_rfl) (fun _ _ _ h => h) (Or.inl ⟨by kernel_rfl, ?_⟩) HS0.out ?_
      · intro X s1
        go_simp
      try simp only [Act.put, List.setIfInBounds_toArray, List.set_cons_zero, List.set_cons_succ]
      refine butLast_take (i := 1) (v := .slice va n vc) rfl (by kernel_rfl) (by kernel_rfl) (by kernel_rfl) (by kernel_rfl) (fun _ _ _ h => h) (Or.inl ⟨by kernel_rfl, ?_⟩) HS0.out ?_
      · intro X s1
        go_simp
      try simp only [Act.put, List.setIfInBounds_toArray, List.set_cons_zero, List.set_cons_succ]
      refine butLast_take (i := 2) (v := .pointer (some ⟨SB, 0, none⟩)) rfl (by kernel_rfl) (by kernel_rfl) (by kernel_rfl) (by kernel_rfl) (fun _ _ _ h => h) (Or.inl ⟨by kernel_rfl, ?_⟩) HS0.out ?_
      · intro X s1
        go_simp
      try simp only [Act.put, List.setIfInBounds_toArray, List.set_cons_zero, List.set_cons_succ]
      refine butLast_take (i := 3) (v := .int .i64 now) rfl (by kernel_rfl) (by kernel_rfl) (by kernel_rfl) (by kernel_rfl) (fun _ _ _ h => h) (Or.inl ⟨by kernel_rfl, ?_⟩) HS0.out ?_
      · intro X s1
        go_simp
      try simp only [Act.put, List.setIfInBounds_toArray, List.set_cons_zero, List.set_cons_succ]
      refine butLast_take (i := 4) (v := .int .i64 (now + 50)) rfl (by kernel_rfl) (by kernel_rfl) (by kernel_rfl) (by kernel_rfl) (fun _ _ _ h => h) (Or.inl ⟨by kernel_rfl, ?_⟩) HS0.out ?_
      · intro X s1
        go_simp
      try simp only [Act.put, List.setIfInBounds_toArray, List.set_cons_zero, List.set_cons_succ]
      refine butLast_one (i := 5) rfl (by kernel_rfl) (fun K hK => ?_)
      go_simp
      have JA := hid12 (JD.out.keep ((Below.refl _ _).alloc (Nat.le_refl _) (.cells (([0, -1, now + 50] : List Int).map (Value.int .i64)).toArray 2)))
      refine hK _ _ (.inr (HKS.out _ JA.out.bb)) ?_
      clear hK K JA
      try simp only [Act.put, List.setIfInBounds_toArray, List.set_cons_zero, List.set_cons_succ]
      refine butLast_one (i := 6) rfl (by kernel_rfl) (fun K hK => ?_)
      go_simp
      refine (l1Pick_h _ SB a len cap (k1 + 1) JD.out.sr [0, -1, now + 50] 3 rfl (by omega) (by omega) (by omega) hl2).mono ?_
      rintro r w6 ⟨⟨x, _, rfl⟩, hs1, hb1, ha1⟩
      have J2 := hid12 (JD.out.step hs1 hb1 ha1)
      clear hs1 hb1 ha1 J1 JD
      refine hK _ _ (.inr (HKS.out _ J2.out.bb)) ?_
      clear hK K
      try simp only [Act.put, List.setIfInBounds_toArray, List.set_cons_zero, List.set_cons_succ]
      refine butLast_one (i := 7) rfl (by kernel_rfl) (fun K hK => ?_)
      go_simp
      refine hK _ _ (.inr (HKS.out _ J2.out.bb)) ?_
      clear hK K
      try simp only [Act.put, List.setIfInBounds_toArray, List.set_cons_zero, List.set_cons_succ]
      refine butLast_one (i := 8) rfl (by kernel_rfl) (fun K hK => ?_)
      go_simp
      have J3 := hid12 (J2.out.keep ((Below.refl _ _).alloc (Nat.le_refl _) (.cells #[.int .i64 x, .bool false] 112)))
      refine hK _ _ (.inr (HKS.out _ J3.out.bb)) ?_
      clear hK K
      try simp only [Act.put, List.setIfInBounds_toArray, List.set_cons_zero, List.set_cons_succ]
      obtain ⟨X3, hX3⟩ : ∃ X3, X3 = w6.alloc (.cells #[.int .i64 x, .bool false] 112) := ⟨_, rfl⟩
      have N3 : Hid (X3.cell? ⟨w6.heap.size, 0, none⟩ = some (.int .i64 x) ∧ X3.cell? ⟨w6.heap.size, 1, none⟩ = some (.bool false)) := by rw [hX3]; exact ⟨by simp, by simp⟩
      rw [← hX3] at J3 ⊢
      have bs3 : Hid (R + 1 ≤ X3.heap.size) := by have h1 := J3.out.lt; have h2 := J3.out.bb.lt; show R + 1 ≤ X3.heap.size; omega
      clear hX3
      refine butLast_one (i := 9) rfl (by kernel_rfl) (fun K hK => ?_)
      refine step_append1Mk X3 (by rfl) _ _ (by rfl) (R + 1) _ l ⟨x, false⟩ w6.heap.size n J3.out.ln (by rfl) J3.out.ow (by rfl) N3.out.1 N3.out.2 (by omega) bs3.out ?_
      intro g5 vc5 w7 h41 h42 h43
      have HL5 : (l ++ [(⟨x, false⟩ : Mk)]).length = n + 1 := by rw [List.length_append, J3.out.ln]; rfl
      obtain ⟨l5, hl5⟩ : ∃ l5, l ++ [(⟨x, false⟩ : Mk)] = l5 := ⟨_, rfl⟩
      rw [hl5] at HL5 h41
      clear hl5
      have JP := hid12 (J3.out.push h41 HL5 h42 h43)
      clear h41 h42 h43 HL5 J3 J2 N3 bs3
      refine hK _ _ (.inr (HKS.out _ JP.out.2)) ?_
      clear hK K
      try simp only [Act.put, List.setIfInBounds_toArray, List.set_cons_zero, List.set_cons_succ]
      refine butLast_one (i := 10) rfl (by kernel_rfl) (fun K hK => ?_)
      go_simp
      refine hK _ _ (.inr (HKS.out _ JP.out.2)) ?_
      clear hK K
      try simp only [Act.put, List.setIfInBounds_toArray, List.set_cons_zero, List.set_cons_succ]
      obtain ⟨c0, c1, c2, c3, fr, _⟩ := JP.out.2
      have f3 := fr 3
      clear fr
      refine butLast_one (i := 11) rfl (by kernel_rfl) (fun K hK => ?_)
      go_simp
      refine hK _ _ (.inl rfl) ?_
      clear hK K
      refine butLast_end (by kernel_rfl) ?_
      go_wp2_with fail
      go_meet
      exact ⟨_, _, _, _, n + 1, vc5, l5, k1 + 2, by omega, by omega, JP.out.1⟩
    by_cases hv3 : v = 3
    · subst hv3
      have z0 := n0 (by omega)
      have z1 := n1 (by omega)
      have z2 := n2 (by omega)
      clear n0 n1 n2 n3 n4
      go_wp2_with fail
      refine (l1Pick_h _ SB a len cap (k1 + 1) J1.out.sr [-1, now + 1] 2 rfl (by omega) (by omega) (by omega) hl2).mono ?_
      rintro r w6 ⟨⟨x, _, rfl⟩, hs1, hb1, ha1⟩
      have J2 := hid12 (J1.out.step hs1 hb1 ha1)
      clear hs1 hb1 ha1 J1
      have J3 := hid12 (J2.out.s1 x)
      obtain ⟨c0, c1, c2, c3, fr, _⟩ := J2.out.bb
      have f0 := fr 0
      have f1 := fr 1
      have f2 := fr 2
      clear fr J2
      go_wp2_with fail
      go_meet
      exact ⟨_, _, _, va, n, vc, l, k1 + 2, by omega, by omega, J3.out⟩
    by_cases hv4 : v = 4
    · subst hv4
      have z0 := n0 (by omega)
      have z1 := n1 (by omega)
      have z2 := n2 (by omega)
      have z3 := n3 (by omega)
      clear n0 n1 n2 n3 n4
      go_wp2_with fail
      go_loopw [] (fun X => ∃ (va : Option Addr) (n vc : Nat) (l : List Mk), n ≤ 61 ∧ DN w X N SB R B (R + 1) a0 a1 a2 a3 a4 a len cap (k1 + 1) s t o va n vc l) (fun X => 61 - lenOf X B)
      case atStart => exact ⟨va, n, vc, l, by omega, J1.out⟩
      case round =>
        obtain ⟨vb, nb, vd, lb, hnb, hJ⟩ := hrel
        clear J1
        have J4 := hid12 hJ
        clear hJ
        obtain ⟨c0, c1, c2, c3, fr, _⟩ := J4.out.bb
        have fr3 := fr 3
        clear fr
        by_cases hlt : (nb : Int) < 61
        · have HE : Hid (lenOf wr B = nb) := lenOf_eq c3
          have JA := hid12 (J4.out.keep ((Below.refl _ _).alloc (Nat.le_refl _) (.cells #[.int .i64 now, .bool false] 112)))
          have bs3 : R + 1 ≤ (wr.alloc (.cells #[.int .i64 now, .bool false] 112)).heap.size := by have h1 := J4.out.lt; have h2 := JA.out.bb.lt; omega
          have n0' : (wr.alloc (.cells #[.int .i64 now, .bool false] 112)).cell? ⟨wr.heap.size, 0, none⟩ = some (.int .i64 now) := by simp
          have n1' : (wr.alloc (.cells #[.int .i64 now, .bool false] 112)).cell? ⟨wr.heap.size, 1, none⟩ = some (.bool false) := by simp
          go_wp2_with (at_builtin; refine wpList_append1MkG (wr.alloc (.cells #[.int .i64 now, .bool false] 112)) rfl (.tmp 61) (.tmp 64) rfl (R + 1) (.slice vb nb vd) lb ⟨now, false⟩ wr.heap.size nb J4.out.ln rfl JA.out.ow (by simp [go_sem]) n0' n1' (by omega) bs3 ?_; intro g5 vc5 w7 h41 h42 h43; have HL5 : (lb ++ [(⟨now, false⟩ : Mk)]).length = nb + 1 := (by rw [List.length_append, J4.out.ln]; rfl); obtain ⟨l5, hl5⟩ : ∃ l5, lb ++ [(⟨now, false⟩ : Mk)] = l5 := ⟨_, rfl⟩; rw [hl5] at HL5 h41; clear hl5; have JP := hid12 (JA.out.push h41 HL5 h42 h43); clear h41 h42 h43 HL5 n0' n1' bs3 JA c0 c1 c2 c3 fr3; obtain ⟨d0, d1, d2, d3, df, _⟩ := JP.out.2; have df3 := df 3; clear df)
          go_roundw
          case rel => exact ⟨_, nb + 1, vc5, l5, by omega, JP.out.1⟩
          case measure => have := HE.out; rw [lenOf_eq JP.out.1.bb.c3, this]; omega
        · go_wp2_with fail
          go_meet
          exact ⟨_, _, _, vb, nb, vd, lb, k1 + 1, hnb, by omega, J4.out⟩
    have z0 := n0 hv0
    have z1 := n1 hv1
    have z2 := n2 hv2
    have z3 := n3 hv3
    have z4 := n4 hv4
    clear n0 n1 n2 n3 n4
    go_wp2_with fail
    go_meet
    exact ⟨_, _, _, va, n, vc, l, k1 + 1, by omega, by omega, J1.out⟩
  case rest =>
    obtain ⟨s2, t2, o2, va2, n2, vc2, l2, k2, hn2, hk2, hJ⟩ := hcut
    have J2 := hid12 hJ
    have hn3 : n2 ≤ 61 := hn2
    clear hJ J1 w50 w01
    generalize wc = w6 at *
    go_wp2_with fail
    refine (l1Chance_h _ SB a len cap k2 12 J2.out.sr (by omega) (by omega) (by omega) hl2).mono ?_
    rintro r w7 ⟨⟨c12, rfl⟩, hs1, hb1, ha1⟩
    have J3 := hid12 (J2.out.step hs1 hb1 ha1)
    clear hs1 hb1 ha1 J2
    cases c12
    · skip
      have e2 := HSB.out
      subst e2
      obtain ⟨c0, c1, c2, c3, _, _⟩ := J3.out.bb
      obtain ⟨r0, r1, r2, r3, r4, _, _⟩ := J3.out.rl
      obtain ⟨p0, p1, p2, p3, pf, _⟩ := J3.out.q0
      obtain ⟨x0, x1, x2, x3, x4, xf, _⟩ := J3.out.q1
      have pf0 := pf 0
      have pf1 := pf 1
      have pf2 := pf 2
      have pf3 := pf 3
      have xf0 := xf 0
      have xf1 := xf 1
      have xf2 := xf 2
      have xf3 := xf 3
      have xf4 := xf 4
      clear pf xf
      have HF := hid12 (J3.out.fin HC.out)
      have HLN2 := hid12 J3.out.ln
      have hRN : ¬ R = N ∧ ¬ R = N + 1 ∧ ¬ B = N ∧ ¬ B = N + 1 := by have := J3.out.lt; omega
      obtain ⟨m1, m2, m3, m4⟩ := hRN
      have m5 : ¬ N = R := fun e => m1 e.symm
      have m6 : ¬ N + 1 = R := fun e => m2 e.symm
      have m7 : ¬ N = B := fun e => m3 e.symm
      have m8 : ¬ N + 1 = B := fun e => m4 e.symm
      have HS0 : Hid (SBR w7 B R s2 t2 o2 va2 n2 vc2 a0 a1 a2 a3 a4) := ⟨J3.out.bb.c0, J3.out.bb.c1, J3.out.bb.c2, J3.out.bb.c3, J3.out.rl.c0, J3.out.rl.c1, J3.out.rl.c2, J3.out.rl.c3, J3.out.rl.c4⟩
      have HKS : Hid (∀ Z i y, SBR Z B R s2 t2 o2 va2 n2 vc2 a0 a1 a2 a3 a4 → SBR (Z.setCell ⟨N, i, none⟩ y) B R s2 t2 o2 va2 n2 vc2 a0 a1 a2 a3 a4) := fun Z i y h => h.off m7 m5
      have HKT : Hid (∀ Z i y, SBR Z B R s2 t2 o2 va2 n2 vc2 a0 a1 a2 a3 a4 → SBR (Z.setCell ⟨N + 1, i, none⟩ y) B R s2 t2 o2 va2 n2 vc2 a0 a1 a2 a3 a4) := fun Z i y h => h.off m8 m6
      have HKD : Hid (∀ Z, SBR Z B R s2 t2 o2 va2 n2 vc2 a0 a1 a2 a3 a4 → SBR Z.drew B R s2 t2 o2 va2 n2 vc2 a0 a1 a2 a3 a4) := fun Z h => h
      clear J3
      unfold SBR at HS0 HKS HKT HKD
      go_wp2_with fail
      go_region_held3 (fun Z => Z.cell? ⟨B, 0, none⟩ = some (.int .i64 s2) ∧ Z.cell? ⟨B, 1, none⟩ = some (.int .i64 t2) ∧ Z.cell? ⟨B, 2, none⟩ = some (.int .i64 o2) ∧ Z.cell? ⟨B, 3, none⟩ = some (.slice va2 n2 vc2) ∧ Z.cell? ⟨R, 0, none⟩ = some (.int .i64 a0) ∧ Z.cell? ⟨R, 1, none⟩ = some (.int .i64 a1) ∧ Z.cell? ⟨R, 2, none⟩ = some (.int .i64 a2) ∧ Z.cell? ⟨R, 3, none⟩ = some (.int .i64 a3) ∧ Z.cell? ⟨R, 4, none⟩ = some (.int .i64 a4))
        (repeat (first | with_reducible exact HS0.out | with_reducible refine HKS.out _ _ _ ?_ | with_reducible refine HKT.out _ _ _ ?_ | with_reducible refine HKD.out _ ?_))
        (fail)
      all_goals
        go_wp2_with fail
        exact bodyPost_ret (v := .tuple #[.agg #[.int .i64 s2, .int .i64 t2, .int .i64 o2, .slice va2 n2 vc2], .agg #[.int .i64 a0, .int .i64 a1, .int .i64 a2, .int .i64 a3, .int .i64 a4], .int .i64 now, .pointer (some ⟨N + 2, 0, none⟩)]) (by simp [results, Try.results61, go_sem, p0, p1, p2, p3, x0, x1, x2, x3, x4]) rfl (BentB.mk HLN2.out (by omega) (by omega) (by omega : (k2 + 1) ≤ 300) (by repeat (first | with_reducible exact HF.out | with_reducible refine FinP.set ?_ (by omega) | with_reducible refine FinP.drw ?_)))
    · skip
      obtain ⟨X7, hX7⟩ : ∃ X, X = w7.alloc (.cells #[.int .u8 1] 5) := ⟨_, rfl⟩
      have B1 : Hid (Below w7.heap.size w7 X7) := by show Below _ _ _; rw [hX7]; exact (Below.refl _ _).alloc (Nat.le_refl _) _
      have O1 : Hid (X7.ownsRow w7.heap.size 5 1 (.slice (some ⟨w7.heap.size, 0, none⟩) 1 1) 1 [.int .u8 1]) := by
        show World.ownsRow _ _ _ _ _ _ _
        rw [hX7]
        exact ⟨by simp, .inr ⟨w7.heap.size, 1, #[.int .u8 1], rfl, Nat.le_refl _, heap_alloc_new _ _, Nat.le_refl _, by unfold maxLen; omega, by simp, by simp⟩⟩
      have J4 := hid12 (J3.out.keep B1.out)
      obtain ⟨lc, hlc, hin⟩ := bytes_of_code J4.out.sr.row
      have HIN := hid12 (dBytes_in hin)
      have HLN : Hid ((dBytes lc).length = len * 1) := by show _ = _; unfold dBytes; simp [hlc]
      have HL1 : Hid ((1 :: lc).length = 1 + len) := by show _ = _; simp [hlc]; omega
      have HDB : Hid ([Value.int .u8 1] ++ dBytes lc = dBytes (1 :: lc)) := by show _ = _; simp [dBytes]
      have HX7 := hid12 hX7
      have HLC := hid12 hlc
      clear hX7 hin hlc
      go_wp2_with (at_builtin; rw [← HX7.out]; refine wpList_plain rfl fun _ hK => wp_append_in X7 (.tmp 69) (.tmp 70) 22 5 rfl i0 _ 1 1 Try.underlying22 HI0.out HZ0.out HZ1.out HZ2.out rfl (by omega) w7.heap.size (.slice (some ⟨w7.heap.size, 0, none⟩) 1 1) 1 [.int .u8 1] (by rfl) O1.out a cap len (dBytes lc) (by rfl) HLN.out (by rw [← HLC.out]; exact HIN.out) (dOneB lc) (by unfold maxLen; omega) (by omega) B1.out.size (fun v' w8 h1 h2 _ => hK _ _ ?_); obtain ⟨vr, vq, rfl, _⟩ := row_form h1; rw [HDB.out] at h1; have HCR := hid12 (code_of_row HL1.out h1); have J5 := hid12 (J3.out.keep (B1.out.trans h2)); clear h1 h2)
      refine (drawRules_any _ vr (1 + len) vq HCR.out (by omega)).mono ?_
      rintro r w9 ⟨⟨b0, b1, b2, b3, b4, rfl⟩, hb9⟩
      have J6 := hid12 (J5.out.keep hb9)
      clear hb9 J5 J4 J3 HCR
      obtain ⟨r0, r1, r2, r3, r4, rf, _⟩ := J6.out.rl
      have rf0 := rf 0
      have rf1 := rf 1
      have rf2 := rf 2
      have rf3 := rf 3
      have rf4 := rf 4
      clear rf
      have J7 := hid12 (DN.rset (y0 := b0) (y1 := b1) (y2 := b2) (y3 := b3) (y4 := b4) J6.out)
      obtain ⟨X9, hX9⟩ : ∃ X, X = (((((w9.setCell ⟨R, 0, none⟩ (.int .i64 b0)).setCell ⟨R, 1, none⟩ (.int .i64 b1)).setCell ⟨R, 2, none⟩ (.int .i64 b2)).setCell ⟨R, 3, none⟩ (.int .i64 b3)).setCell ⟨R, 4, none⟩ (.int .i64 b4)) := ⟨_, rfl⟩
      rw [← hX9] at J7
      have HX9 := hid12 hX9
      clear hX9 J6
      go_upto_region 18 with fail
      rw [← HX9.out]
      clear HX9 r0 r1 r2 r3 r4 rf0 rf1 rf2 rf3 rf4
      have e2 := HSB.out
      subst e2
      obtain ⟨c0, c1, c2, c3, _, _⟩ := J7.out.bb
      obtain ⟨r0, r1, r2, r3, r4, _, _⟩ := J7.out.rl
      obtain ⟨p0, p1, p2, p3, pf, _⟩ := J7.out.q0
      obtain ⟨x0, x1, x2, x3, x4, xf, _⟩ := J7.out.q1
      have pf0 := pf 0
      have pf1 := pf 1
      have pf2 := pf 2
      have pf3 := pf 3
      have xf0 := xf 0
      have xf1 := xf 1
      have xf2 := xf 2
      have xf3 := xf 3
      have xf4 := xf 4
      clear pf xf
      have HF := hid12 (J7.out.fin HC.out)
      have HLN2 := hid12 J7.out.ln
      have hRN : ¬ R = N ∧ ¬ R = N + 1 ∧ ¬ B = N ∧ ¬ B = N + 1 := by have := J7.out.lt; omega
      obtain ⟨m1, m2, m3, m4⟩ := hRN
      have m5 : ¬ N = R := fun e => m1 e.symm
      have m6 : ¬ N + 1 = R := fun e => m2 e.symm
      have m7 : ¬ N = B := fun e => m3 e.symm
      have m8 : ¬ N + 1 = B := fun e => m4 e.symm
      have HS0 : Hid (SBR X9 B R s2 t2 o2 va2 n2 vc2 b0 b1 b2 b3 b4) := ⟨J7.out.bb.c0, J7.out.bb.c1, J7.out.bb.c2, J7.out.bb.c3, J7.out.rl.c0, J7.out.rl.c1, J7.out.rl.c2, J7.out.rl.c3, J7.out.rl.c4⟩
      have HKS : Hid (∀ Z i y, SBR Z B R s2 t2 o2 va2 n2 vc2 b0 b1 b2 b3 b4 → SBR (Z.setCell ⟨N, i, none⟩ y) B R s2 t2 o2 va2 n2 vc2 b0 b1 b2 b3 b4) := fun Z i y h => h.off m7 m5
      have HKT : Hid (∀ Z i y, SBR Z B R s2 t2 o2 va2 n2 vc2 b0 b1 b2 b3 b4 → SBR (Z.setCell ⟨N + 1, i, none⟩ y) B R s2 t2 o2 va2 n2 vc2 b0 b1 b2 b3 b4) := fun Z i y h => h.off m8 m6
      have HKD : Hid (∀ Z, SBR Z B R s2 t2 o2 va2 n2 vc2 b0 b1 b2 b3 b4 → SBR Z.drew B R s2 t2 o2 va2 n2 vc2 b0 b1 b2 b3 b4) := fun Z h => h
      clear J7
      unfold SBR at HS0 HKS HKT HKD
      go_wp2_with fail
      go_region_held3 (fun Z => Z.cell? ⟨B, 0, none⟩ = some (.int .i64 s2) ∧ Z.cell? ⟨B, 1, none⟩ = some (.int .i64 t2) ∧ Z.cell? ⟨B, 2, none⟩ = some (.int .i64 o2) ∧ Z.cell? ⟨B, 3, none⟩ = some (.slice va2 n2 vc2) ∧ Z.cell? ⟨R, 0, none⟩ = some (.int .i64 b0) ∧ Z.cell? ⟨R, 1, none⟩ = some (.int .i64 b1) ∧ Z.cell? ⟨R, 2, none⟩ = some (.int .i64 b2) ∧ Z.cell? ⟨R, 3, none⟩ = some (.int .i64 b3) ∧ Z.cell? ⟨R, 4, none⟩ = some (.int .i64 b4))
        (repeat (first | with_reducible exact HS0.out | with_reducible refine HKS.out _ _ _ ?_ | with_reducible refine HKT.out _ _ _ ?_ | with_reducible refine HKD.out _ ?_))
        (fail)
      all_goals
        go_wp2_with fail
        exact bodyPost_ret (v := .tuple #[.agg #[.int .i64 s2, .int .i64 t2, .int .i64 o2, .slice va2 n2 vc2], .agg #[.int .i64 b0, .int .i64 b1, .int .i64 b2, .int .i64 b3, .int .i64 b4], .int .i64 now, .pointer (some ⟨N + 2, 0, none⟩)]) (by simp [results, Try.results61, go_sem, p0, p1, p2, p3, x0, x1, x2, x3, x4]) rfl (BentB.mk HLN2.out (by omega) (by omega) (by omega : (k2 + 1) ≤ 300) (by repeat (first | with_reducible exact HF.out | with_reducible refine FinP.set ?_ (by omega) | with_reducible refine FinP.drw ?_)))
end Go.Proofs.Ytmgidcigihpbeaa
/-
  The draws of policies.
-/
namespace Go.Proofs.Ytmgidcigihpbeaa
open Go.ChangeShapes Go.WideShapes Go.ChangeAt Go.RowKit Go.Sort
theorem PolAt.apart {B : Nat} {w w' : World} {b : Nat} {b0 b1 b2 : Bool} {l s e g : Int} (k : PolAt w b b0 b1 b2 l s e g) (ha : Apart B w w') (hn : b ≠ B) : PolAt w' b b0 b1 b2 l s e g := by
  obtain ⟨c0, c1, c2, c3, c4, c5, c6, fr, hl⟩ := k
  exact ⟨by rw [ha.cell _ _ hl hn, c0], by rw [ha.cell _ _ hl hn, c1], by rw [ha.cell _ _ hl hn, c2], by rw [ha.cell _ _ hl hn, c3], by rw [ha.cell _ _ hl hn, c4], by rw [ha.cell _ _ hl hn, c5], by rw [ha.cell _ _ hl hn, c6], fun o => by rw [ha.frozen _ _ hl hn, fr], Nat.lt_of_lt_of_le hl ha.size⟩
theorem PolAt.offP {w : World} {b B i : Nat} {x : Value} {b0 b1 b2 : Bool} {l s e g : Int} (k : PolAt w b b0 b1 b2 l s e g) (h : B ≠ b) : PolAt (w.setCell ⟨B, i, none⟩ x) b b0 b1 b2 l s e g := by
  have ne : ∀ o : Nat, (⟨B, i, none⟩ : Addr) ≠ ⟨b, o, none⟩ := fun o q => h (congrArg Addr.block q)
  exact ⟨by rw [World.cell?_setCell_other _ _ _ _ (ne _)]; exact k.c0, by rw [World.cell?_setCell_other _ _ _ _ (ne _)]; exact k.c1, by rw [World.cell?_setCell_other _ _ _ _ (ne _)]; exact k.c2, by rw [World.cell?_setCell_other _ _ _ _ (ne _)]; exact k.c3, by rw [World.cell?_setCell_other _ _ _ _ (ne _)]; exact k.c4, by rw [World.cell?_setCell_other _ _ _ _ (ne _)]; exact k.c5, by rw [World.cell?_setCell_other _ _ _ _ (ne _)]; exact k.c6, fun o => by rw [World.frozen?_setCell]; exact k.fr o, by simpa using k.lt⟩
theorem PolAt.put0 {w : World} {b : Nat} {b0 b1 b2 : Bool} {l s e g : Int} (k : PolAt w b b0 b1 b2 l s e g) (y : Bool) : PolAt (w.setCell ⟨b, 0, none⟩ (.bool y)) b y b1 b2 l s e g :=
  ⟨World.cell?_setCell_same _ _ _ k.c0, by rw [World.cell?_setCell_other _ _ _ _ (by intro q; have := congrArg Addr.off q; simp at this)]; exact k.c1, by rw [World.cell?_setCell_other _ _ _ _ (by intro q; have := congrArg Addr.off q; simp at this)]; exact k.c2, by rw [World.cell?_setCell_other _ _ _ _ (by intro q; have := congrArg Addr.off q; simp at this)]; exact k.c3, by rw [World.cell?_setCell_other _ _ _ _ (by intro q; have := congrArg Addr.off q; simp at this)]; exact k.c4, by rw [World.cell?_setCell_other _ _ _ _ (by intro q; have := congrArg Addr.off q; simp at this)]; exact k.c5, by rw [World.cell?_setCell_other _ _ _ _ (by intro q; have := congrArg Addr.off q; simp at this)]; exact k.c6, fun o => by rw [World.frozen?_setCell]; exact k.fr o, by simpa using k.lt⟩
theorem PolAt.put1 {w : World} {b : Nat} {b0 b1 b2 : Bool} {l s e g : Int} (k : PolAt w b b0 b1 b2 l s e g) (y : Bool) : PolAt (w.setCell ⟨b, 1, none⟩ (.bool y)) b b0 y b2 l s e g :=
  ⟨by rw [World.cell?_setCell_other _ _ _ _ (by intro q; have := congrArg Addr.off q; simp at this)]; exact k.c0, World.cell?_setCell_same _ _ _ k.c1, by rw [World.cell?_setCell_other _ _ _ _ (by intro q; have := congrArg Addr.off q; simp at this)]; exact k.c2, by rw [World.cell?_setCell_other _ _ _ _ (by intro q; have := congrArg Addr.off q; simp at this)]; exact k.c3, by rw [World.cell?_setCell_other _ _ _ _ (by intro q; have := congrArg Addr.off q; simp at this)]; exact k.c4, by rw [World.cell?_setCell_other _ _ _ _ (by intro q; have := congrArg Addr.off q; simp at this)]; exact k.c5, by rw [World.cell?_setCell_other _ _ _ _ (by intro q; have := congrArg Addr.off q; simp at this)]; exact k.c6, fun o => by rw [World.frozen?_setCell]; exact k.fr o, by simpa using k.lt⟩
theorem PolAt.put2 {w : World} {b : Nat} {b0 b1 b2 : Bool} {l s e g : Int} (k : PolAt w b b0 b1 b2 l s e g) (y : Bool) : PolAt (w.setCell ⟨b, 2, none⟩ (.bool y)) b b0 b1 y l s e g :=
  ⟨by rw [World.cell?_setCell_other _ _ _ _ (by intro q; have := congrArg Addr.off q; simp at this)]; exact k.c0, by rw [World.cell?_setCell_other _ _ _ _ (by intro q; have := congrArg Addr.off q; simp at this)]; exact k.c1, World.cell?_setCell_same _ _ _ k.c2, by rw [World.cell?_setCell_other _ _ _ _ (by intro q; have := congrArg Addr.off q; simp at this)]; exact k.c3, by rw [World.cell?_setCell_other _ _ _ _ (by intro q; have := congrArg Addr.off q; simp at this)]; exact k.c4, by rw [World.cell?_setCell_other _ _ _ _ (by intro q; have := congrArg Addr.off q; simp at this)]; exact k.c5, by rw [World.cell?_setCell_other _ _ _ _ (by intro q; have := congrArg Addr.off q; simp at this)]; exact k.c6, fun o => by rw [World.frozen?_setCell]; exact k.fr o, by simpa using k.lt⟩
theorem PolAt.put3 {w : World} {b : Nat} {b0 b1 b2 : Bool} {l s e g : Int} (k : PolAt w b b0 b1 b2 l s e g) (y : Int) : PolAt (w.setCell ⟨b, 3, none⟩ (.int .i64 y)) b b0 b1 b2 y s e g :=
  ⟨by rw [World.cell?_setCell_other _ _ _ _ (by intro q; have := congrArg Addr.off q; simp at this)]; exact k.c0, by rw [World.cell?_setCell_other _ _ _ _ (by intro q; have := congrArg Addr.off q; simp at this)]; exact k.c1, by rw [World.cell?_setCell_other _ _ _ _ (by intro q; have := congrArg Addr.off q; simp at this)]; exact k.c2, World.cell?_setCell_same _ _ _ k.c3, by rw [World.cell?_setCell_other _ _ _ _ (by intro q; have := congrArg Addr.off q; simp at this)]; exact k.c4, by rw [World.cell?_setCell_other _ _ _ _ (by intro q; have := congrArg Addr.off q; simp at this)]; exact k.c5, by rw [World.cell?_setCell_other _ _ _ _ (by intro q; have := congrArg Addr.off q; simp at this)]; exact k.c6, fun o => by rw [World.frozen?_setCell]; exact k.fr o, by simpa using k.lt⟩
theorem PolAt.put4 {w : World} {b : Nat} {b0 b1 b2 : Bool} {l s e g : Int} (k : PolAt w b b0 b1 b2 l s e g) (y : Int) : PolAt (w.setCell ⟨b, 4, none⟩ (.int .i64 y)) b b0 b1 b2 l y e g :=
  ⟨by rw [World.cell?_setCell_other _ _ _ _ (by intro q; have := congrArg Addr.off q; simp at this)]; exact k.c0, by rw [World.cell?_setCell_other _ _ _ _ (by intro q; have := congrArg Addr.off q; simp at this)]; exact k.c1, by rw [World.cell?_setCell_other _ _ _ _ (by intro q; have := congrArg Addr.off q; simp at this)]; exact k.c2, by rw [World.cell?_setCell_other _ _ _ _ (by intro q; have := congrArg Addr.off q; simp at this)]; exact k.c3, World.cell?_setCell_same _ _ _ k.c4, by rw [World.cell?_setCell_other _ _ _ _ (by intro q; have := congrArg Addr.off q; simp at this)]; exact k.c5, by rw [World.cell?_setCell_other _ _ _ _ (by intro q; have := congrArg Addr.off q; simp at this)]; exact k.c6, fun o => by rw [World.frozen?_setCell]; exact k.fr o, by simpa using k.lt⟩
theorem PolAt.put5 {w : World} {b : Nat} {b0 b1 b2 : Bool} {l s e g : Int} (k : PolAt w b b0 b1 b2 l s e g) (y : Int) : PolAt (w.setCell ⟨b, 5, none⟩ (.int .i64 y)) b b0 b1 b2 l s y g :=
  ⟨by rw [World.cell?_setCell_other _ _ _ _ (by intro q; have := congrArg Addr.off q; simp at this)]; exact k.c0, by rw [World.cell?_setCell_other _ _ _ _ (by intro q; have := congrArg Addr.off q; simp at this)]; exact k.c1, by rw [World.cell?_setCell_other _ _ _ _ (by intro q; have := congrArg Addr.off q; simp at this)]; exact k.c2, by rw [World.cell?_setCell_other _ _ _ _ (by intro q; have := congrArg Addr.off q; simp at this)]; exact k.c3, by rw [World.cell?_setCell_other _ _ _ _ (by intro q; have := congrArg Addr.off q; simp at this)]; exact k.c4, World.cell?_setCell_same _ _ _ k.c5, by rw [World.cell?_setCell_other _ _ _ _ (by intro q; have := congrArg Addr.off q; simp at this)]; exact k.c6, fun o => by rw [World.frozen?_setCell]; exact k.fr o, by simpa using k.lt⟩
theorem PolAt.put6 {w : World} {b : Nat} {b0 b1 b2 : Bool} {l s e g : Int} (k : PolAt w b b0 b1 b2 l s e g) (y : Int) : PolAt (w.setCell ⟨b, 6, none⟩ (.int .i64 y)) b b0 b1 b2 l s e y :=
  ⟨by rw [World.cell?_setCell_other _ _ _ _ (by intro q; have := congrArg Addr.off q; simp at this)]; exact k.c0, by rw [World.cell?_setCell_other _ _ _ _ (by intro q; have := congrArg Addr.off q; simp at this)]; exact k.c1, by rw [World.cell?_setCell_other _ _ _ _ (by intro q; have := congrArg Addr.off q; simp at this)]; exact k.c2, by rw [World.cell?_setCell_other _ _ _ _ (by intro q; have := congrArg Addr.off q; simp at this)]; exact k.c3, by rw [World.cell?_setCell_other _ _ _ _ (by intro q; have := congrArg Addr.off q; simp at this)]; exact k.c4, by rw [World.cell?_setCell_other _ _ _ _ (by intro q; have := congrArg Addr.off q; simp at this)]; exact k.c5, World.cell?_setCell_same _ _ _ k.c6, fun o => by rw [World.frozen?_setCell]; exact k.fr o, by simpa using k.lt⟩
theorem PolAt.allP {X : World} {b : Nat} {c0 c1 c2 : Bool} {l' s' e' g' : Int} (k : PolAt X b c0 c1 c2 l' s' e' g') (b0 b1 b2 : Bool) (l s e g : Int) : PolAt (((((((X.setCell ⟨b, 0, none⟩ (.bool b0)).setCell ⟨b, 1, none⟩ (.bool b1)).setCell ⟨b, 2, none⟩ (.bool b2)).setCell ⟨b, 3, none⟩ (.int .i64 l)).setCell ⟨b, 4, none⟩ (.int .i64 s)).setCell ⟨b, 5, none⟩ (.int .i64 e)).setCell ⟨b, 6, none⟩ (.int .i64 g)) b b0 b1 b2 l s e g :=
  ((((((k.put0 _).put1 _).put2 _).put3 _).put4 _).put5 _).put6 _
def SomePol (r : Ending) : Prop := ∃ (b0 b1 b2 : Bool) (l s e g : Int), r = .returned (.agg #[.bool b0, .bool b1, .bool b2, .int .i64 l, .int .i64 s, .int .i64 e, .int .i64 g])
end Go.Proofs.Ytmgidcigihpbeaa
/-
  A later source of draws; the draws of StoreLife's arguments.
-/
namespace Go.Proofs.Ytmgidcigihpbeaa
open Go.ChangeShapes Go.WideShapes Go.ChangeAt Go.RowKit Go.Sort
set_option maxHeartbeats 400000 in
theorem l1Later_any (w : World) (a : Option Addr) (len cap : Nat) (j : Nat) (hj : j ≤ 10) (hc : CodeRow w w.heap.size a len) :
    Calls Try.prog 72 #[.slice a len cap, .int .i64 (j : Int)] w fun e w' => e = .returned (.pointer (some ⟨w.heap.size, 0, none⟩)) ∧ Src w' w.heap.size a len cap (5 + 7 * j) ∧ Below w.heap.size w w' := by
  have HC : Hid (CodeRow w w.heap.size a len) := hc
  clear hc
  have e1 : (((5 + 7 * j : Nat)) : Int) = 5 + 7 * (j : Int) := by omega
  have g0 : (0 : Int) ≤ (j : Int) := by omega
  have g1 : (j : Int) ≤ 10 := by omega
  go_enter Try.func72, Try.ntmps72
  go_wp2
  go_ret
  have hb : Below w.heap.size w (w.alloc (.cells #[.slice a len cap, .int .i64 (5 + 7 * (j : Int))] 128)) := (Below.refl _ _).alloc (Nat.le_refl _) _
  refine ⟨rfl, ⟨by simp, by rw [e1]; simp, by simp, HC.out.below hb⟩, hb⟩
def SomeP2 (r : Ending) : Prop := ∃ (b0 b1 b2 : Bool) (l s e g : Int) (st ng : Int), r = .returned (.tuple #[.agg #[.bool b0, .bool b1, .bool b2, .int .i64 l, .int .i64 s, .int .i64 e, .int .i64 g], .int .i64 st, .int .i64 ng])
end Go.Proofs.Ytmgidcigihpbeaa
/-
  The draws of a breaker that is asked, and of one to which an outcome is told.
-/
namespace Go.Proofs.Ytmgidcigihpbeaa
open Go.ChangeShapes Go.WideShapes Go.ChangeAt Go.RowKit Go.Sort
/-- Marks in a row of one's own, and all that was there ahead of the call as it was. -/
structure EndP (w X : World) (N base : Nat) (va : Option Addr) (n vc : Nat) (l : List Mk) : Prop where
  ow : OwnMk X base (.slice va n vc) l
  lo : Below N w X
  hb : N + 2 ≤ base
theorem EndP.set {w X : World} {N base : Nat} {va : Option Addr} {n vc : Nat} {l : List Mk} {b i : Nat} {y : Value} (h : EndP w X N base va n vc l) (hb : b = N ∨ b = N + 1) : EndP w (X.setCell ⟨b, i, none⟩ y) N base va n vc l := by
  have := h.hb
  exact ⟨h.ow.offB (gbSet _ _ _ _) (by omega), h.lo.setCell (by simp; omega) _, h.hb⟩
theorem EndP.drw {w X : World} {N base : Nat} {va : Option Addr} {n vc : Nat} {l : List Mk} (h : EndP w X N base va n vc l) : EndP w X.drew N base va n vc l := ⟨h.ow.below (Below.refl _ _).drew, h.lo.drew, h.hb⟩
theorem EndP.keep {w X Y : World} {N base : Nat} {va : Option Addr} {n vc : Nat} {l : List Mk} (h : EndP w X N base va n vc l) (hb : Below X.heap.size X Y) (hN : N ≤ X.heap.size) : EndP w Y N base va n vc l := ⟨h.ow.below hb, h.lo.trans (hb.mono hN), h.hb⟩
theorem EndP.in {w X : World} {N base : Nat} {va : Option Addr} {n vc : Nat} {l : List Mk} (h : EndP w X N base va n vc l) : MkIn X va l := by
  obtain ⟨x, y, e, _, hin⟩ := h.ow.in
  simp only [Value.slice.injEq] at e
  rw [e.1]
  exact hin
theorem EndP.at {w X : World} {N : Nat} {va : Option Addr} {n vc : Nat} {l : List Mk} (h : EndP w X N (N + 2) va n vc l) (hN : w.heap.size = N) : EndP w X w.heap.size (w.heap.size + 2) va n vc l := by rw [hN]; exact h
def AskB (w w' : World) (e : Ending) : Prop := ∃ (s t o now a0 a1 a2 a3 a4 : Int) (va : Option Addr) (n vc : Nat) (l : List Mk), e = .returned (.tuple #[.agg #[.int .i64 s, .int .i64 t, .int .i64 o, .slice va n vc], .agg #[.int .i64 a0, .int .i64 a1, .int .i64 a2, .int .i64 a3, .int .i64 a4], .int .i64 now]) ∧ l.length = n ∧ n ≤ 61 ∧ (-1 ≤ now ∧ now ≤ 40000) ∧ EndP w w' w.heap.size (w.heap.size + 2) va n vc l
theorem AskB.mk {w w' : World} {s t o now a0 a1 a2 a3 a4 : Int} {va : Option Addr} {n vc : Nat} {l : List Mk} (h1 : l.length = n) (h2 : n ≤ 61) (h3 : -1 ≤ now ∧ now ≤ 40000) (h4 : EndP w w' w.heap.size (w.heap.size + 2) va n vc l) : AskB w w' (.returned (.tuple #[.agg #[.int .i64 s, .int .i64 t, .int .i64 o, .slice va n vc], .agg #[.int .i64 a0, .int .i64 a1, .int .i64 a2, .int .i64 a3, .int .i64 a4], .int .i64 now])) := ⟨s, t, o, now, a0, a1, a2, a3, a4, va, n, vc, l, rfl, h1, h2, h3, h4⟩
def AskN (w w' : World) (e : Ending) : Prop := ∃ (s t o now a0 a1 a2 a3 a4 : Int) (va : Option Addr) (n vc : Nat) (l : List Mk) (g : Bool), e = .returned (.tuple #[.agg #[.int .i64 s, .int .i64 t, .int .i64 o, .slice va n vc], .agg #[.int .i64 a0, .int .i64 a1, .int .i64 a2, .int .i64 a3, .int .i64 a4], .int .i64 now, .bool g]) ∧ l.length = n ∧ n ≤ 61 ∧ (-1 ≤ now ∧ now ≤ 40000) ∧ EndP w w' w.heap.size (w.heap.size + 2) va n vc l
theorem AskN.mk {w w' : World} {s t o now a0 a1 a2 a3 a4 : Int} {va : Option Addr} {n vc : Nat} {l : List Mk} {g : Bool} (h1 : l.length = n) (h2 : n ≤ 61) (h3 : -1 ≤ now ∧ now ≤ 40000) (h4 : EndP w w' w.heap.size (w.heap.size + 2) va n vc l) : AskN w w' (.returned (.tuple #[.agg #[.int .i64 s, .int .i64 t, .int .i64 o, .slice va n vc], .agg #[.int .i64 a0, .int .i64 a1, .int .i64 a2, .int .i64 a3, .int .i64 a4], .int .i64 now, .bool g])) := ⟨s, t, o, now, a0, a1, a2, a3, a4, va, n, vc, l, g, rfl, h1, h2, h3, h4⟩
theorem FinP.in {w X : World} {N SB : Nat} {a : Option Addr} {len cap k : Nat} {va : Option Addr} {n vc : Nat} {l : List Mk} (h : FinP w X N SB a len cap k va n vc l) (hN : w.heap.size = N) : EndP w X w.heap.size (w.heap.size + 2) va n vc l := by
  rw [hN]
  exact ⟨h.ow.lower (by have := h.hN; omega), h.lo, Nat.le_refl _⟩
theorem FinP.keep {w X Y : World} {N SB : Nat} {a : Option Addr} {len cap k : Nat} {va : Option Addr} {n vc : Nat} {l : List Mk} (h : FinP w X N SB a len cap k va n vc l) (hb : Below X.heap.size X Y) : FinP w Y N SB a len cap k va n vc l :=
  ⟨h.ow.below hb, h.sr.below (hb.mono h.sr.lt), h.lo.trans (hb.mono (by have := h.sr.lt; have := h.hN; omega)), h.cr, h.hN⟩
theorem FinP.step {w X Y : World} {N SB : Nat} {a : Option Addr} {len cap k k' : Nat} {va : Option Addr} {n vc : Nat} {l : List Mk} (h : FinP w X N SB a len cap k va n vc l) (hs : Src Y SB a len cap k') (hb : Below SB X Y) (ha : ApartH SB X Y) : FinP w Y N SB a len cap k' va n vc l :=
  ⟨h.ow.apart ha (Nat.lt_succ_self _), hs, h.lo.trans (hb.mono (by have := h.hN; omega)), h.cr, h.hN⟩
theorem SBR.step {X Y : World} {SB B R : Nat} {s t o : Int} {va : Option Addr} {n vc : Nat} {a0 a1 a2 a3 a4 : Int} (h : SBR X B R s t o va n vc a0 a1 a2 a3 a4) (ha : ApartH SB X Y) (hB : B ≠ SB) (hR : R ≠ SB) : SBR Y B R s t o va n vc a0 a1 a2 a3 a4 := by
  obtain ⟨c0, c1, c2, c3, r0, r1, r2, r3, r4⟩ := h
  have hc := ha.cells
  exact ⟨by rw [hc.cell _ _ (block_lt_of_cell c0) hB]; exact c0, by rw [hc.cell _ _ (block_lt_of_cell c0) hB]; exact c1, by rw [hc.cell _ _ (block_lt_of_cell c0) hB]; exact c2, by rw [hc.cell _ _ (block_lt_of_cell c0) hB]; exact c3, by rw [hc.cell _ _ (block_lt_of_cell r0) hR]; exact r0, by rw [hc.cell _ _ (block_lt_of_cell r0) hR]; exact r1, by rw [hc.cell _ _ (block_lt_of_cell r0) hR]; exact r2, by rw [hc.cell _ _ (block_lt_of_cell r0) hR]; exact r3, by rw [hc.cell _ _ (block_lt_of_cell r0) hR]; exact r4⟩
theorem SBR.keep {X Y : World} {B R : Nat} {s t o : Int} {va : Option Addr} {n vc : Nat} {a0 a1 a2 a3 a4 : Int} (h : SBR X B R s t o va n vc a0 a1 a2 a3 a4) (hb : Below X.heap.size X Y) : SBR Y B R s t o va n vc a0 a1 a2 a3 a4 := by
  obtain ⟨c0, c1, c2, c3, r0, r1, r2, r3, r4⟩ := h
  have k : ∀ (b i : Nat) (v : Value), X.cell? ⟨b, i, none⟩ = some v → Y.cell? ⟨b, i, none⟩ = some v := fun b i v h => by rw [hb.cell (block_lt_of_cell h)]; exact h
  exact ⟨k _ _ _ c0, k _ _ _ c1, k _ _ _ c2, k _ _ _ c3, k _ _ _ r0, k _ _ _ r1, k _ _ _ r2, k _ _ _ r3, k _ _ _ r4⟩
set_option linter.unusedSimpArgs false in
set_option maxRecDepth 100000 in
set_option maxHeartbeats 32000000 in
theorem drawAllow_any (w : World) (a : Option Addr) (len cap : Nat) (N : Nat) (hN : w.heap.size = N) (hc : CodeRow w N a len) (hl3 : len ≤ 1048576) :
    Calls Try.prog 25 #[.slice a len cap] w fun e w' => AskB w w' e := by
  have hl2 : len ≤ 1048577 := by omega
  have HC := rulQ hc
  obtain ⟨V1, hV1⟩ : ∃ V, V = w.alloc (.cells #[.int .i64 0, .int .i64 0, .int .i64 0, .slice none 0 0] 51) := ⟨_, rfl⟩
  obtain ⟨V2, hV2⟩ : ∃ V, V = V1.alloc (.cells #[.int .i64 0, .int .i64 0, .int .i64 0, .int .i64 0, .int .i64 0] 53) := ⟨_, rfl⟩
  have z1 : V1.heap.size = N + 1 := by rw [hV1, ← hN]; simp
  have z2 : V2.heap.size = N + 2 := by rw [hV2]; simp [z1]
  have b1 : Below w.heap.size w V1 := by rw [hV1]; exact (Below.refl _ _).alloc (Nat.le_refl _) _
  have b2 : Below V1.heap.size V1 V2 := by rw [hV2]; exact (Below.refl _ _).alloc (Nat.le_refl _) _
  have b12 : Below N w V2 := by rw [← hN]; exact b1.trans (b2.mono b1.size)
  have q0 : S4 V2 N (.int .i64 0) (.int .i64 0) (.int .i64 0) (.slice none 0 0) := by
    have := S4.new w (.int .i64 0) (.int .i64 0) (.int .i64 0) (.slice none 0 0) 51
    rw [← hV1, hN] at this
    exact this.keep b2
  have q1 : S5 V2 (N + 1) (.int .i64 0) (.int .i64 0) (.int .i64 0) (.int .i64 0) (.int .i64 0) := by
    have := S5.new V1 (.int .i64 0) (.int .i64 0) (.int .i64 0) (.int .i64 0) (.int .i64 0) 53
    rw [← hV2, z1] at this
    exact this
  have HB := rulQ b12
  have HQ := rulQ (show S4 V2 N (.int .i64 0) (.int .i64 0) (.int .i64 0) (.slice none 0 0) ∧ S5 V2 (N + 1) (.int .i64 0) (.int .i64 0) (.int .i64 0) (.int .i64 0) (.int .i64 0) from ⟨q0, q1⟩)
  have HBE : Hid (Calls Try.prog 61 #[.slice a len cap] V2 fun e w' => BentB V2 w' (N + 2) a len cap e) := l10Bent_any V2 a len cap (N + 2) z2 ((hc.below b12).mono (by omega)) hl3
  have HV1 := rulQ hV1
  have HV2 := rulQ hV2
  clear b1 b2 b12 q0 q1 hV1 hV2 hc z1 z2
  go_enter Try.func25, Try.ntmps25
  go_upto_region 1 with fail
  rw [← HV1.out, ← HV2.out]
  clear HV1 HV2
  go_wp2_with fail
  refine HBE.out.mono ?_
  rintro r w1 ⟨s, t, o, now, a0, a1, a2, a3, a4, va, n, vc, l, k, rfl, hln, hn61, hnow, hk, hf⟩
  have HF1 : Hid (FinP w w1 N (N + 4) a len cap k va n vc l) := ⟨hf.ow, hf.sr, HB.out.trans (hf.lo.mono (by omega)), HC.out, by omega⟩
  have HQ1 := rulQ (show S4 w1 N (.int .i64 0) (.int .i64 0) (.int .i64 0) (.slice none 0 0) ∧ S5 w1 (N + 1) (.int .i64 0) (.int .i64 0) (.int .i64 0) (.int .i64 0) (.int .i64 0) from ⟨HQ.out.1.low hf.lo (by omega), HQ.out.2.low hf.lo (by omega)⟩)
  clear hf HBE HB HQ
  obtain ⟨W2, hW2⟩ : ∃ W, W = (w1.alloc (.cells #[.int .i64 s, .int .i64 t, .int .i64 o, .slice va n vc] 51)).alloc (.cells #[.int .i64 a0, .int .i64 a1, .int .i64 a2, .int .i64 a3, .int .i64 a4] 53) := ⟨_, rfl⟩
  obtain ⟨B, hB⟩ : ∃ B, w1.heap.size = B := ⟨_, rfl⟩
  have hBN : N + 4 < B := by rw [← hB]; exact HF1.out.sr.lt
  have bA : Below w1.heap.size w1 (w1.alloc (.cells #[.int .i64 s, .int .i64 t, .int .i64 o, .slice va n vc] 51)) := (Below.refl _ _).alloc (Nat.le_refl _) _
  have bB : Below (w1.alloc (.cells #[.int .i64 s, .int .i64 t, .int .i64 o, .slice va n vc] 51)).heap.size (w1.alloc (.cells #[.int .i64 s, .int .i64 t, .int .i64 o, .slice va n vc] 51)) W2 := by rw [hW2]; exact (Below.refl _ _).alloc (Nat.le_refl _) _
  have b2 : Below w1.heap.size w1 W2 := bA.trans (bB.mono bA.size)
  have sA := S4.new w1 (.int .i64 s) (.int .i64 t) (.int .i64 o) (.slice va n vc) 51
  have sB := S5.new (w1.alloc (.cells #[.int .i64 s, .int .i64 t, .int .i64 o, .slice va n vc] 51)) (.int .i64 a0) (.int .i64 a1) (.int .i64 a2) (.int .i64 a3) (.int .i64 a4) 53
  rw [show (w1.alloc (.cells #[.int .i64 s, .int .i64 t, .int .i64 o, .slice va n vc] 51)).heap.size = B + 1 by rw [← hB]; simp, ← hW2] at sB
  rw [hB] at sA
  have sA2 := sA.keep bB
  have G2 : Hid (FinP w W2 N (N + 4) a len cap k va n vc l ∧ SBR W2 B (B + 1) s t o va n vc a0 a1 a2 a3 a4 ∧ S4 W2 N (.int .i64 0) (.int .i64 0) (.int .i64 0) (.slice none 0 0) ∧ S5 W2 (N + 1) (.int .i64 0) (.int .i64 0) (.int .i64 0) (.int .i64 0) (.int .i64 0)) := ⟨HF1.out.keep b2, ⟨sA2.c0, sA2.c1, sA2.c2, sA2.c3, sB.c0, sB.c1, sB.c2, sB.c3, sB.c4⟩, HQ1.out.1.keep b2, HQ1.out.2.keep b2⟩
  have HW2 := rulQ hW2
  clear bA bB b2 sA sB sA2 HF1 HQ1 hW2
  go_upto_region 2 with fail
  try simp only [hB]
  rw [← HW2.out]
  clear HW2 hB
  rw [show N + 2 + 2 = N + 4 from rfl]
  have HN := rulQ hN
  have GL : Hid (FinP w (W2.alloc (.cells #[.int .i64 0, .int .i64 1, .int .i64 500, .int .i64 499, .int .i64 2000, .int .i64 1999, .int .i64 100, .int .i64 (-1)] 2)).drew N (N + 4) a len cap k va n vc l ∧ SBR (W2.alloc (.cells #[.int .i64 0, .int .i64 1, .int .i64 500, .int .i64 499, .int .i64 2000, .int .i64 1999, .int .i64 100, .int .i64 (-1)] 2)).drew B (B + 1) s t o va n vc a0 a1 a2 a3 a4 ∧ S4 (W2.alloc (.cells #[.int .i64 0, .int .i64 1, .int .i64 500, .int .i64 499, .int .i64 2000, .int .i64 1999, .int .i64 100, .int .i64 (-1)] 2)).drew N (.int .i64 0) (.int .i64 0) (.int .i64 0) (.slice none 0 0) ∧ S5 (W2.alloc (.cells #[.int .i64 0, .int .i64 1, .int .i64 500, .int .i64 499, .int .i64 2000, .int .i64 1999, .int .i64 100, .int .i64 (-1)] 2)).drew (N + 1) (.int .i64 0) (.int .i64 0) (.int .i64 0) (.int .i64 0) (.int .i64 0)) := by
    have bl : Below W2.heap.size W2 (W2.alloc (.cells #[.int .i64 0, .int .i64 1, .int .i64 500, .int .i64 499, .int .i64 2000, .int .i64 1999, .int .i64 100, .int .i64 (-1)] 2)).drew := ((Below.refl _ _).alloc (Nat.le_refl _) _).drew
    exact ⟨G2.out.1.keep bl, G2.out.2.1.keep bl, G2.out.2.2.1.keep bl, G2.out.2.2.2.keep bl⟩
  have HP : Hid (Calls Try.prog 39 #[.pointer (some ⟨N + 4, 0, none⟩), .slice (some ⟨W2.heap.size, 0, none⟩) 8 8] (W2.alloc (.cells #[.int .i64 0, .int .i64 1, .int .i64 500, .int .i64 499, .int .i64 2000, .int .i64 1999, .int .i64 100, .int .i64 (-1)] 2)).drew fun e w' => (∃ v : Int, v ∈ ([0, 1, 500, 499, 2000, 1999, 100, -1] : List Int) ∧ e = .returned (.int .i64 v)) ∧ FinP w w' N (N + 4) a len cap (k + 1) va n vc l ∧ SBR w' B (B + 1) s t o va n vc a0 a1 a2 a3 a4 ∧ S4 w' N (.int .i64 0) (.int .i64 0) (.int .i64 0) (.slice none 0 0) ∧ S5 w' (N + 1) (.int .i64 0) (.int .i64 0) (.int .i64 0) (.int .i64 0) (.int .i64 0)) := by
    refine (l1Pick_any (W2.alloc (.cells #[.int .i64 0, .int .i64 1, .int .i64 500, .int .i64 499, .int .i64 2000, .int .i64 1999, .int .i64 100, .int .i64 (-1)] 2)).drew (N + 4) a len cap k GL.out.1.sr W2.heap.size [0, 1, 500, 499, 2000, 1999, 100, -1] (by have := G2.out.1.sr.lt; omega) 8 rfl ?_ (by omega) (by omega) (by omega) hl2).mono fun _ w' ⟨h1, h2⟩ => ⟨h1, ?_⟩
    · intro i x hx
      have e : (W2.alloc (.cells #[.int .i64 0, .int .i64 1, .int .i64 500, .int .i64 499, .int .i64 2000, .int .i64 1999, .int .i64 100, .int .i64 (-1)] 2)).drew.cell? ⟨W2.heap.size, i, none⟩ = (([0, 1, 500, 499, 2000, 1999, 100, -1] : List Int).map (Value.int .i64))[i]? := by simp
      rw [e, List.getElem?_map, hx]
      rfl
    · obtain ⟨hs, hb⟩ := GL.out.1.sr.stepped h2
      have ha := ApartH.stepped h2
      exact ⟨GL.out.1.step hs hb ha, GL.out.2.1.step ha (by omega) (by omega), GL.out.2.2.1.ah ha (by omega), GL.out.2.2.2.ah ha (by omega)⟩
  have HS1 : Hid (SBR (W2.alloc (.cells #[.int .i64 0, .int .i64 1, .int .i64 500, .int .i64 499, .int .i64 2000, .int .i64 1999, .int .i64 100, .int .i64 (-1)] 2)) B (B + 1) s t o va n vc a0 a1 a2 a3 a4) := G2.out.2.1.keep ((Below.refl _ _).alloc (Nat.le_refl _) _)
  have HS0 : Hid (SBR W2 B (B + 1) s t o va n vc a0 a1 a2 a3 a4) := G2.out.2.1
  have HKC : Hid (∀ Z, SBR Z B (B + 1) s t o va n vc a0 a1 a2 a3 a4 → Z.cell? ⟨B, 0, none⟩ = some (.int .i64 s) ∧ Z.cell? ⟨B, 1, none⟩ = some (.int .i64 t) ∧ Z.cell? ⟨B, 2, none⟩ = some (.int .i64 o) ∧ Z.cell? ⟨B, 3, none⟩ = some (.slice va n vc) ∧ Z.cell? ⟨B + 1, 0, none⟩ = some (.int .i64 a0) ∧ Z.cell? ⟨B + 1, 1, none⟩ = some (.int .i64 a1) ∧ Z.cell? ⟨B + 1, 2, none⟩ = some (.int .i64 a2) ∧ Z.cell? ⟨B + 1, 3, none⟩ = some (.int .i64 a3) ∧ Z.cell? ⟨B + 1, 4, none⟩ = some (.int .i64 a4)) := fun Z h => h
  have HKS : Hid (∀ Z i y, SBR Z B (B + 1) s t o va n vc a0 a1 a2 a3 a4 → SBR (Z.setCell ⟨N, i, none⟩ y) B (B + 1) s t o va n vc a0 a1 a2 a3 a4) := fun Z i y h => h.off (by omega) (by omega)
  have HKT : Hid (∀ Z i y, SBR Z B (B + 1) s t o va n vc a0 a1 a2 a3 a4 → SBR (Z.setCell ⟨N + 1, i, none⟩ y) B (B + 1) s t o va n vc a0 a1 a2 a3 a4) := fun Z i y h => h.off (by omega) (by omega)
  have HKD : Hid (∀ Z, SBR Z B (B + 1) s t o va n vc a0 a1 a2 a3 a4 → SBR Z.drew B (B + 1) s t o va n vc a0 a1 a2 a3 a4) := fun Z h => h
  have HLN := rulQ hln
  clear hln G2
  go_region_held3 (fun Z => Z.cell? ⟨B, 0, none⟩ = some (.int .i64 s) ∧ Z.cell? ⟨B, 1, none⟩ = some (.int .i64 t) ∧ Z.cell? ⟨B, 2, none⟩ = some (.int .i64 o) ∧ Z.cell? ⟨B, 3, none⟩ = some (.slice va n vc) ∧ Z.cell? ⟨B + 1, 0, none⟩ = some (.int .i64 a0) ∧ Z.cell? ⟨B + 1, 1, none⟩ = some (.int .i64 a1) ∧ Z.cell? ⟨B + 1, 2, none⟩ = some (.int .i64 a2) ∧ Z.cell? ⟨B + 1, 3, none⟩ = some (.int .i64 a3) ∧ Z.cell? ⟨B + 1, 4, none⟩ = some (.int .i64 a4))
    (first | ((with_reducible refine HKC.out _ ?_); (repeat (first | with_reducible exact HS0.out | with_reducible exact HS1.out | with_reducible exact HSA.out | with_reducible refine HKS.out _ _ _ ?_ | with_reducible refine HKT.out _ _ _ ?_ | with_reducible refine HKD.out _ ?_))))
    (first
    | (go_at_call 39; (with_reducible refine HP.out.mono ?_); rintro r wa ⟨⟨x, hx, rfl⟩, g⟩; have GA := hid12 g; have hxb : -1 ≤ x ∧ x ≤ 2000 := (by simp only [List.mem_cons, List.not_mem_nil, or_false] at hx; omega); have wx : IntKind.i64.wrap (now + x) = now + x := (by rw [IntKind.wrap_i64]; omega); clear hx g; obtain ⟨p0, p1, p2, p3, pf, _⟩ := GA.out.2.2.1; obtain ⟨x0, x1, x2, x3, x4, xf, _⟩ := GA.out.2.2.2; have pf0 := pf 0; have pf1 := pf 1; have pf2 := pf 2; have pf3 := pf 3; have xf0 := xf 0; have xf1 := xf 1; have xf2 := xf 2; have xf3 := xf 3; have xf4 := xf 4; clear pf xf; have GF := hid12 GA.out.1; have HSA := hid12 GA.out.2.1; clear GA))
  all_goals
    go_wp2_with fail
    exact bodyPost_ret (v := .tuple #[.agg #[.int .i64 s, .int .i64 t, .int .i64 o, .slice va n vc], .agg #[.int .i64 a0, .int .i64 a1, .int .i64 a2, .int .i64 a3, .int .i64 a4], .int .i64 (now + x)]) (by simp [results, Try.results25, go_sem, p0, p1, p2, p3, x0, x1, x2, x3, x4]) rfl (AskB.mk HLN.out (by omega) (by omega) (FinP.in (SB := N + 4) (a := a) (len := len) (cap := cap) (k := k + 1) (n := n) (vc := vc) (by repeat (first | with_reducible exact GF.out | with_reducible refine FinP.set ?_ (by omega) | with_reducible refine FinP.drw ?_)) HN.out))
set_option linter.unusedSimpArgs false in
set_option maxRecDepth 100000 in
set_option maxHeartbeats 32000000 in
theorem drawNote_any (w : World) (a : Option Addr) (len cap : Nat) (N : Nat) (hN : w.heap.size = N) (hc : CodeRow w N a len) (hl3 : len ≤ 1048576) :
    Calls Try.prog 32 #[.slice a len cap] w fun e w' => AskN w w' e := by
  have hl2 : len ≤ 1048577 := by omega
  have HC := rulQ hc
  obtain ⟨V1, hV1⟩ : ∃ V, V = w.alloc (.cells #[.int .i64 0, .int .i64 0, .int .i64 0, .slice none 0 0] 51) := ⟨_, rfl⟩
  obtain ⟨V2, hV2⟩ : ∃ V, V = V1.alloc (.cells #[.int .i64 0, .int .i64 0, .int .i64 0, .int .i64 0, .int .i64 0] 53) := ⟨_, rfl⟩
  have z1 : V1.heap.size = N + 1 := by rw [hV1, ← hN]; simp
  have z2 : V2.heap.size = N + 2 := by rw [hV2]; simp [z1]
  have b1 : Below w.heap.size w V1 := by rw [hV1]; exact (Below.refl _ _).alloc (Nat.le_refl _) _
  have b2 : Below V1.heap.size V1 V2 := by rw [hV2]; exact (Below.refl _ _).alloc (Nat.le_refl _) _
  have b12 : Below N w V2 := by rw [← hN]; exact b1.trans (b2.mono b1.size)
  have q0 : S4 V2 N (.int .i64 0) (.int .i64 0) (.int .i64 0) (.slice none 0 0) := by
    have := S4.new w (.int .i64 0) (.int .i64 0) (.int .i64 0) (.slice none 0 0) 51
    rw [← hV1, hN] at this
    exact this.keep b2
  have q1 : S5 V2 (N + 1) (.int .i64 0) (.int .i64 0) (.int .i64 0) (.int .i64 0) (.int .i64 0) := by
    have := S5.new V1 (.int .i64 0) (.int .i64 0) (.int .i64 0) (.int .i64 0) (.int .i64 0) 53
    rw [← hV2, z1] at this
    exact this
  have HB := rulQ b12
  have HQ := rulQ (show S4 V2 N (.int .i64 0) (.int .i64 0) (.int .i64 0) (.slice none 0 0) ∧ S5 V2 (N + 1) (.int .i64 0) (.int .i64 0) (.int .i64 0) (.int .i64 0) (.int .i64 0) from ⟨q0, q1⟩)
  have HBE : Hid (Calls Try.prog 25 #[.slice a len cap] V2 fun e w' => AskB V2 w' e) := drawAllow_any V2 a len cap (N + 2) z2 ((hc.below b12).mono (by omega)) hl3
  have HZ2 := rulQ z2
  have HV1 := rulQ hV1
  have HV2 := rulQ hV2
  clear b1 b2 b12 q0 q1 hV1 hV2 hc z1 z2
  go_enter Try.func32, Try.ntmps32
  go_upto_region 1 with fail
  rw [← HV1.out, ← HV2.out]
  clear HV1 HV2
  go_wp2_with fail
  refine HBE.out.mono ?_
  rintro r w1 ⟨s, t, o, now, a0, a1, a2, a3, a4, va, n, vc, l, rfl, hln, hn61, hnow, hf⟩
  rw [HZ2.out] at hf
  have hlo := hf.lo
  have hsz : N + 2 ≤ w1.heap.size := by rw [← HZ2.out]; exact hlo.size
  have HF1 : Hid (EndP w w1 N (N + 2) va n vc l) := ⟨hf.ow.lower (by omega), HB.out.trans (hlo.mono (by omega)), Nat.le_refl _⟩
  have HQ1 := rulQ (show S4 w1 N (.int .i64 0) (.int .i64 0) (.int .i64 0) (.slice none 0 0) ∧ S5 w1 (N + 1) (.int .i64 0) (.int .i64 0) (.int .i64 0) (.int .i64 0) (.int .i64 0) from ⟨HQ.out.1.low hlo (by omega), HQ.out.2.low hlo (by omega)⟩)
  clear hf HBE HB HQ hlo HZ2
  obtain ⟨W2, hW2⟩ : ∃ W, W = (w1.alloc (.cells #[.int .i64 s, .int .i64 t, .int .i64 o, .slice va n vc] 51)).alloc (.cells #[.int .i64 a0, .int .i64 a1, .int .i64 a2, .int .i64 a3, .int .i64 a4] 53) := ⟨_, rfl⟩
  obtain ⟨B, hB⟩ : ∃ B, w1.heap.size = B := ⟨_, rfl⟩
  have hBN : N + 2 ≤ B := by rw [← hB]; exact hsz
  have bA : Below w1.heap.size w1 (w1.alloc (.cells #[.int .i64 s, .int .i64 t, .int .i64 o, .slice va n vc] 51)) := (Below.refl _ _).alloc (Nat.le_refl _) _
  have bB : Below (w1.alloc (.cells #[.int .i64 s, .int .i64 t, .int .i64 o, .slice va n vc] 51)).heap.size (w1.alloc (.cells #[.int .i64 s, .int .i64 t, .int .i64 o, .slice va n vc] 51)) W2 := by rw [hW2]; exact (Below.refl _ _).alloc (Nat.le_refl _) _
  have b2 : Below w1.heap.size w1 W2 := bA.trans (bB.mono bA.size)
  have sA := S4.new w1 (.int .i64 s) (.int .i64 t) (.int .i64 o) (.slice va n vc) 51
  have sB := S5.new (w1.alloc (.cells #[.int .i64 s, .int .i64 t, .int .i64 o, .slice va n vc] 51)) (.int .i64 a0) (.int .i64 a1) (.int .i64 a2) (.int .i64 a3) (.int .i64 a4) 53
  rw [show (w1.alloc (.cells #[.int .i64 s, .int .i64 t, .int .i64 o, .slice va n vc] 51)).heap.size = B + 1 by rw [← hB]; simp, ← hW2] at sB
  rw [hB] at sA
  have sA2 := sA.keep bB
  have E2 := HF1.out.keep b2 (by omega)
  have hsz2 : B + 2 ≤ W2.heap.size := sB.lt
  have HG : Hid (∀ X, Below W2.heap.size W2 X → EndP w X N (N + 2) va n vc l ∧ SBR X B (B + 1) s t o va n vc a0 a1 a2 a3 a4 ∧ S4 X N (.int .i64 0) (.int .i64 0) (.int .i64 0) (.slice none 0 0) ∧ S5 X (N + 1) (.int .i64 0) (.int .i64 0) (.int .i64 0) (.int .i64 0) (.int .i64 0) ∧ CodeRow X X.heap.size a len) := fun X hX => ⟨E2.keep hX (by omega), (show SBR W2 B (B + 1) s t o va n vc a0 a1 a2 a3 a4 from ⟨sA2.c0, sA2.c1, sA2.c2, sA2.c3, sB.c0, sB.c1, sB.c2, sB.c3, sB.c4⟩).keep hX, (HQ1.out.1.keep b2).keep hX, (HQ1.out.2.keep b2).keep hX, (HC.out.below (E2.keep hX (by omega)).lo).mono (by have := hX.size; omega)⟩
  have HW2 := rulQ hW2
  clear bA bB b2 sA sB sA2 HF1 HQ1 hW2 E2
  go_upto_region 2 with fail
  try simp only [hB]
  rw [← HW2.out]
  clear HW2 hB
  have HN := rulQ hN
  have D0 : Hid (Below W2.heap.size W2 W2.drew) := (Below.refl _ _).drew
  have HL : Hid (∀ X, Below W2.heap.size W2 X → Calls Try.prog 72 #[.slice a len cap, .int .i64 2] X fun e w' => e = .returned (.pointer (some ⟨X.heap.size, 0, none⟩)) ∧ Src w' X.heap.size a len cap 19 ∧ Below W2.heap.size W2 w') := fun X hX => (l1Later_any X a len cap 2 (by omega) (HG.out X hX).2.2.2.2).mono fun _ _ ⟨h1, h2, h3⟩ => ⟨h1, h2, hX.trans (h3.mono hX.size)⟩
  have HCH : Hid (∀ X M, Src X M a len cap 19 → Below W2.heap.size W2 X → W2.heap.size ≤ M → Calls Try.prog 56 #[.pointer (some ⟨M, 0, none⟩), .int .i64 2] X fun e w' => (∃ b : Bool, e = .returned (.bool b)) ∧ Below W2.heap.size W2 w') := fun X M hs hX hM => (l1Chance_h X M a len cap 19 2 hs (by omega) (by omega) (by omega) hl2).mono fun _ _ ⟨h1, _, h3, _⟩ => ⟨h1, hX.trans (h3.mono hM)⟩
  have HS0 : Hid (SBR W2 B (B + 1) s t o va n vc a0 a1 a2 a3 a4) := (HG.out _ (Below.refl _ _)).2.1
  have HKC : Hid (∀ Z, SBR Z B (B + 1) s t o va n vc a0 a1 a2 a3 a4 → Z.cell? ⟨B, 0, none⟩ = some (.int .i64 s) ∧ Z.cell? ⟨B, 1, none⟩ = some (.int .i64 t) ∧ Z.cell? ⟨B, 2, none⟩ = some (.int .i64 o) ∧ Z.cell? ⟨B, 3, none⟩ = some (.slice va n vc) ∧ Z.cell? ⟨B + 1, 0, none⟩ = some (.int .i64 a0) ∧ Z.cell? ⟨B + 1, 1, none⟩ = some (.int .i64 a1) ∧ Z.cell? ⟨B + 1, 2, none⟩ = some (.int .i64 a2) ∧ Z.cell? ⟨B + 1, 3, none⟩ = some (.int .i64 a3) ∧ Z.cell? ⟨B + 1, 4, none⟩ = some (.int .i64 a4)) := fun Z h => h
  have HKS : Hid (∀ Z i y, SBR Z B (B + 1) s t o va n vc a0 a1 a2 a3 a4 → SBR (Z.setCell ⟨N, i, none⟩ y) B (B + 1) s t o va n vc a0 a1 a2 a3 a4) := fun Z i y h => h.off (by omega) (by omega)
  have HKT : Hid (∀ Z i y, SBR Z B (B + 1) s t o va n vc a0 a1 a2 a3 a4 → SBR (Z.setCell ⟨N + 1, i, none⟩ y) B (B + 1) s t o va n vc a0 a1 a2 a3 a4) := fun Z i y h => h.off (by omega) (by omega)
  have HKD : Hid (∀ Z, SBR Z B (B + 1) s t o va n vc a0 a1 a2 a3 a4 → SBR Z.drew B (B + 1) s t o va n vc a0 a1 a2 a3 a4) := fun Z h => h
  have HLN := rulQ hln
  clear hln
  go_region_held3 (fun Z => Z.cell? ⟨B, 0, none⟩ = some (.int .i64 s) ∧ Z.cell? ⟨B, 1, none⟩ = some (.int .i64 t) ∧ Z.cell? ⟨B, 2, none⟩ = some (.int .i64 o) ∧ Z.cell? ⟨B, 3, none⟩ = some (.slice va n vc) ∧ Z.cell? ⟨B + 1, 0, none⟩ = some (.int .i64 a0) ∧ Z.cell? ⟨B + 1, 1, none⟩ = some (.int .i64 a1) ∧ Z.cell? ⟨B + 1, 2, none⟩ = some (.int .i64 a2) ∧ Z.cell? ⟨B + 1, 3, none⟩ = some (.int .i64 a3) ∧ Z.cell? ⟨B + 1, 4, none⟩ = some (.int .i64 a4))
    (first | ((with_reducible refine HKC.out _ ?_); (repeat (first | with_reducible exact HS0.out | with_reducible exact HSL.out | with_reducible exact HSA.out | with_reducible refine HKS.out _ _ _ ?_ | with_reducible refine HKT.out _ _ _ ?_ | with_reducible refine HKD.out _ ?_))))
    (first
    | (go_at_call 72; (with_reducible refine (HL.out _ ?_).mono ?_); (with_reducible exact D0.out); rintro r wl ⟨rfl, hs, hb⟩; have DL : Hid (Src wl W2.heap.size a len cap 19 ∧ Below W2.heap.size W2 wl) := ⟨hs, hb⟩; have HSL := hid12 (HG.out _ hb).2.1; clear hs hb)
    | (go_at_call 56; (with_reducible refine (HCH.out _ _ ?_ ?_ ?_).mono ?_); (with_reducible exact DL.out.1); (with_reducible exact DL.out.2); (with_reducible exact Nat.le_refl _); rintro r wa ⟨⟨g, rfl⟩, hb⟩; have GA := hid12 (HG.out _ hb); clear hb; obtain ⟨p0, p1, p2, p3, pf, _⟩ := GA.out.2.2.1; obtain ⟨x0, x1, x2, x3, x4, xf, _⟩ := GA.out.2.2.2.1; have pf0 := pf 0; have pf1 := pf 1; have pf2 := pf 2; have pf3 := pf 3; have xf0 := xf 0; have xf1 := xf 1; have xf2 := xf 2; have xf3 := xf 3; have xf4 := xf 4; clear pf xf; have GF := hid12 GA.out.1; have HSA := hid12 GA.out.2.1; clear GA))
  all_goals
    go_wp2_with fail
    exact bodyPost_ret (v := .tuple #[.agg #[.int .i64 s, .int .i64 t, .int .i64 o, .slice va n vc], .agg #[.int .i64 a0, .int .i64 a1, .int .i64 a2, .int .i64 a3, .int .i64 a4], .int .i64 now, .bool g]) (by simp [results, Try.results32, go_sem, p0, p1, p2, p3, x0, x1, x2, x3, x4]) rfl (AskN.mk HLN.out (by omega) (by omega) (EndP.at (by repeat (first | with_reducible exact GF.out | with_reducible refine EndP.set ?_ (by omega) | with_reducible refine EndP.drw ?_)) HN.out))
end Go.Proofs.Ytmgidcigihpbeaa
/-
  What the model's SameHeaders and slices.Equal over head lines answer.
-/
namespace Go.Proofs.Ytmgidcigihpbeaa
open Go.ChangeShapes Go.WideShapes Go.ChangeAt Go.RowKit Go.Sort
def sameM (x y : Mk) : Bool := (x.tm == y.tm) && (x.gd == y.gd)
def sameMs : List Mk → List Mk → Bool
  | [], [] => true
  | x :: l, y :: m => sameM x y && sameMs l m
  | _, _ => false
theorem guardMark (op : BinOp) (a b : Operand) (x y : Array Value) (w : World) : (eqGuard op 112 a b (.agg x) (.agg y)).run Try.prog w = .ok () w := run_eqGuard_agg w op 112 a b x y (by kernel_rfl)
theorem neqMark (x y : Mk) (w : World) : (binOp .neq 112 (.agg #[.int .i64 x.tm, .bool x.gd]) (.agg #[.int .i64 y.tm, .bool y.gd])).run Try.prog w = .ok (.bool (!sameM x y)) w := by
  have u9 := Try.underlying2
  have a9 := Try.isAgg2
  have z9 := Try.sizeOf2
  have u8 := Try.underlying4
  have a8 := Try.isAgg4
  have z8 := Try.sizeOf4
  have hS : Try.prog.underlying 112 = some (.struct (Try.prog.fieldsOf 112)) := by kernel_rfl
  have hp : Try.prog.stoodInHeld 112 = false := by kernel_rfl
  obtain ⟨n1, v1⟩ := x
  obtain ⟨n2, v2⟩ := y
  simp only [sameM]
  rw [run_neq_struct, show (10000 : Nat) = 9999 + 1 from rfl, run_equalIn_agg w 9999 112 _ _ hS hp]
  simp only [Program.fieldsOf, Try.underlying112]
  go_simp
  by_cases e1 : n1 = n2 <;> by_cases e3 : v1 = v2 <;> simp [e1, e3]
end Go.Proofs.Ytmgidcigihpbeaa
/-
  What the model's SameHeaders and slices.Equal over head lines answer, and SameHeaders.
-/
namespace Go.Proofs.Ytmgidcigihpbeaa
open Go.ChangeShapes Go.WideShapes Go.ChangeAt Go.RowKit Go.Sort
theorem sameMs_lens : ∀ (l m : List Mk), l.length ≠ m.length → sameMs l m = false
  | [], [], h => absurd rfl h
  | [], _ :: _, _ => rfl
  | _ :: _, [], _ => rfl
  | x :: l, y :: m, h => by
    rw [sameMs, sameMs_lens l m (by simpa using h), Bool.and_false]
theorem sameMs_drop {l m : List Mk} {k : Nat} {x y : Mk} (hx : l[k]? = some x) (hy : m[k]? = some y) : sameMs (l.drop k) (m.drop k) = (sameM x y && sameMs (l.drop (k + 1)) (m.drop (k + 1))) := by
  rw [dropMk l k x hx, dropMk m k y hy, sameMs]
set_option maxRecDepth 100000 in
set_option maxHeartbeats 4000000 in
theorem equalMarks_any (w : World) (a b : Option Addr) (ca cb : Nat) (l m : List Mk) (hl : l.length ≤ 1048576) (h1 : MkIn w a l) (h2 : MkIn w b m) :
    Calls Try.prog 77 #[.slice a l.length ca, .slice b m.length cb] w fun e w' => e = .returned (.bool (sameMs l m)) ∧ Below w.heap.size w w' := by
  have H1 : Hid (MkIn w a l) := h1
  have H2 : Hid (MkIn w b m) := h2
  clear h1 h2
  by_cases hlen : l.length = m.length
  · have HM : Hid (m.length = l.length) := hlen.symm
    rw [← hlen]
    clear hlen
    generalize hn : l.length = n at *
    have HN : Hid (l.length = n) := hn
    clear hn
    go_enter Try.func77, Try.ntmps77
    go_wp2_with fail
    go_loopw [13] (fun i wr => ∃ k : Nat, k ≤ n ∧ i = .int .i64 k ∧ sameMs l m = sameMs (l.drop k) (m.drop k) ∧ Below w.heap.size w wr) (fun i _ => n - (intOf i).toNat)
    case atStart => exact ⟨0, Nat.zero_le _, rfl, rfl, Below.refl _ _⟩
    case round =>
      obtain ⟨k, hk, rfl, hs, hb⟩ := hrel
      have HS : Hid (sameMs l m = sameMs (l.drop k) (m.drop k)) := hs
      clear hs
      by_cases hlt : k < n
      · obtain ⟨x, hx⟩ : ∃ r, l[k]? = some r := ⟨l[k]'(by have := HN.out; omega), List.getElem?_eq_getElem _⟩
        obtain ⟨y, hy⟩ : ∃ r, m[k]? = some r := ⟨m[k]'(by have := HM.out; have := HN.out; omega), List.getElem?_eq_getElem _⟩
        rcases H1.out with h | ⟨b1, o1, rfl, at1⟩
        · subst h; simp at hx
        rcases H2.out with h | ⟨b2, o2, rfl, at2⟩
        · subst h; simp at hy
        obtain ⟨p1, p3⟩ := (at1.keep hb) k x hx
        obtain ⟨q1, q3⟩ := (at2.keep hb) k y hy
        have x1 := cell_regrown p1
        have x3 := cell_regrown p3
        have y1 := cell_regrown q1
        have y3 := cell_regrown q3
        have hne := neqMark x y
        have hgd := guardMark
        have HD : Hid (sameMs l m = (sameM x y && sameMs (l.drop (k + 1)) (m.drop (k + 1)))) := by show _ = _; rw [HS.out, sameMs_drop hx hy]
        have g0 : (0 : Int) ≤ k := by omega
        have g : (k : Int) < n := by omega
        clear hx hy p1 p3 q1 q3 at1 at2 HS
        generalize x.tm = xn at *
        generalize x.gd = xv at *
        generalize y.tm = yn at *
        generalize y.gd = yv at *
        cases hsame : sameM x y
        · rw [hsame] at hne
          have HE : Hid (sameMs l m = false) := by show _ = _; rw [HD.out, hsame, Bool.false_and]
          clear HD hsame
          simp only [Bool.not_false] at hne
          go_wp2_with fail
          refine wp_region_quiet_below (by kernel_rfl) (by kernel_rfl) ?_
          repeat (go_big_quiet_step (fail))
          refine wpQuiet_nil ?_
          intro w2 hw2
          have hbb : Below w.heap.size w w2 := by
            obtain ⟨⟨d, os⟩, rfl⟩ := hw2
            exact hb.trans ((below_regrown wr d os).mono hb.size)
          clear x1 x3 y1 y3 hne hgd hw2 hb
          go_wp2_with fail
          go_ret
          exact ⟨ret_bool HE.out.symm, hbb⟩
        · rw [hsame] at hne
          have HE : Hid (sameMs l m = sameMs (l.drop (k + 1)) (m.drop (k + 1))) := by show _ = _; rw [HD.out, hsame, Bool.true_and]
          clear HD hsame
          simp only [Bool.not_true] at hne
          go_wp2_with fail
          refine wp_region_quiet_below (by kernel_rfl) (by kernel_rfl) ?_
          repeat (go_big_quiet_step (fail))
          refine wpQuiet_nil ?_
          intro w2 hw2
          have hbb : Below w.heap.size w w2 := by
            obtain ⟨⟨d, os⟩, rfl⟩ := hw2
            exact hb.trans ((below_regrown wr d os).mono hb.size)
          clear x1 x3 y1 y3 hne hgd hw2 hb
          go_wp2_with fail
          go_roundw
          case rel => exact ⟨k + 1, by omega, by go_num, HE.out, hbb⟩
          case measure => simp [intOf]; omega
      · have HE : Hid (sameMs l m = true) := by
          show _ = _
          rw [HS.out, List.drop_of_length_le (by have := HN.out; omega), List.drop_of_length_le (by have := HM.out; have := HN.out; omega)]
          rfl
        clear HS
        go_wp2_with fail
        go_ret
        exact ⟨ret_bool HE.out.symm, hb⟩
  · have HE : Hid (sameMs l m = false) := sameMs_lens l m hlen
    have g : ¬ (l.length : Int) = (m.length : Int) := by omega
    have g2 : ((l.length : Int) != (m.length : Int)) = true := by simpa using g
    clear H1 H2
    generalize l.length = n at *
    generalize m.length = n2 at *
    go_enter Try.func77, Try.ntmps77
    go_wp2_with fail
    go_ret
    exact ⟨ret_bool HE.out.symm, Below.refl _ _⟩
end Go.Proofs.Ytmgidcigihpbeaa
/-
  SameBreakers, on both sides.
-/
namespace Go.Proofs.Ytmgidcigihpbeaa
open Go.ChangeShapes Go.WideShapes Go.ChangeAt Go.RowKit Go.Sort
def sameK (s1 t1 o1 : Int) (l1 : List Mk) (s2 t2 o2 : Int) (l2 : List Mk) : Bool := decide (s1 = s2) && decide (t1 = t2) && decide (o1 = o2) && sameMs l1 l2
set_option maxHeartbeats 4000000 in
theorem implSameK_any (w : World) (s1 t1 o1 : Int) (a1 : Option Addr) (c1 : Nat) (l1 : List Mk) (s2 t2 o2 : Int) (a2 : Option Addr) (c2 : Nat) (l2 : List Mk) (hl : l1.length ≤ 1048576) (h1 : MkIn w a1 l1) (h2 : MkIn w a2 l2) :
    Calls Try.prog 37 #[.agg #[.int .i64 s1, .int .i64 t1, .int .i64 o1, .slice a1 l1.length c1], .agg #[.int .i64 s2, .int .i64 t2, .int .i64 o2, .slice a2 l2.length c2]] w fun e w' => e = .returned (.bool (sameK s1 t1 o1 l1 s2 t2 o2 l2)) ∧ Below w.heap.size w w' := by
  have HQ : Hid (∀ X, Below w.heap.size w X → Calls Try.prog 77 #[.slice a1 l1.length c1, .slice a2 l2.length c2] X fun e w' => e = .returned (.bool (sameMs l1 l2)) ∧ Below X.heap.size X w') := fun X hb => equalMarks_any X a1 a2 c1 c2 l1 l2 hl (h1.keep hb) (h2.keep hb)
  clear h1 h2 hl
  by_cases hs : s1 = s2
  rotate_left
  · have HE : Hid (sameK s1 t1 o1 l1 s2 t2 o2 l2 = false) := by show _ = _; simp [sameK, hs]
    have g : (s1 == s2) = false := by simpa using hs
    have g2 : decide (s1 = s2) = false := by simpa using hs
    clear HQ
    generalize sameK s1 t1 o1 l1 s2 t2 o2 l2 = b at *
    generalize l1.length = n1 at *
    generalize l2.length = n2 at *
    go_enter Try.func37, Try.ntmps37
    go_wp2_with fail
    go_ret
    exact ⟨ret_bool HE.out.symm, ((Below.refl _ _).alloc (Nat.le_refl _) _).alloc (by simp) _⟩
  subst hs
  by_cases ht : t1 = t2
  rotate_left
  · have HE : Hid (sameK s1 t1 o1 l1 s1 t2 o2 l2 = false) := by show _ = _; simp [sameK, ht]
    have g : (t1 == t2) = false := by simpa using ht
    have g2 : decide (t1 = t2) = false := by simpa using ht
    clear HQ
    generalize sameK s1 t1 o1 l1 s1 t2 o2 l2 = b at *
    generalize l1.length = n1 at *
    generalize l2.length = n2 at *
    go_enter Try.func37, Try.ntmps37
    go_wp2_with fail
    go_ret
    exact ⟨ret_bool HE.out.symm, ((Below.refl _ _).alloc (Nat.le_refl _) _).alloc (by simp) _⟩
  subst ht
  by_cases ho : o1 = o2
  rotate_left
  · have HE : Hid (sameK s1 t1 o1 l1 s1 t1 o2 l2 = false) := by show _ = _; simp [sameK, ho]
    have g : (o1 == o2) = false := by simpa using ho
    have g2 : decide (o1 = o2) = false := by simpa using ho
    clear HQ
    generalize sameK s1 t1 o1 l1 s1 t1 o2 l2 = b at *
    generalize l1.length = n1 at *
    generalize l2.length = n2 at *
    go_enter Try.func37, Try.ntmps37
    go_wp2_with fail
    go_ret
    exact ⟨ret_bool HE.out.symm, ((Below.refl _ _).alloc (Nat.le_refl _) _).alloc (by simp) _⟩
  subst ho
  have HE : Hid (sameK s1 t1 o1 l1 s1 t1 o1 l2 = sameMs l1 l2) := by show _ = _; simp [sameK]
  generalize sameK s1 t1 o1 l1 s1 t1 o1 l2 = b at *
  generalize sameMs l1 l2 = m at *
  generalize l1.length = n1 at *
  generalize l2.length = n2 at *
  go_enter Try.func37, Try.ntmps37
  go_wp2_with fail
  refine (HQ.out _ (((Below.refl _ _).alloc (Nat.le_refl _) _).alloc (by simp) _)).mono ?_
  rintro e w1 ⟨rfl, hb⟩
  have HB : Hid (Below w.heap.size w w1) := (((Below.refl _ _).alloc (Nat.le_refl _) _).alloc (by simp) _).trans (hb.mono (by simp; omega))
  clear hb HQ
  go_wp2_with fail
  go_ret
  exact ⟨ret_bool HE.out.symm, HB.out⟩
end Go.Proofs.Ytmgidcigihpbeaa
/-
  A breaker to which an outcome is told stays a right one.
-/
namespace Go.Proofs.Ytmgidcigihpbeaa
open Go.ChangeShapes Go.WideShapes Go.ChangeAt Go.RowKit Go.Sort
theorem guardIO (op : BinOp) (a b : Operand) (x y : Array Value) (w : World) : (eqGuard op 67 a b (.agg x) (.agg y)).run Try.prog w = .ok () w := run_eqGuard_agg w op 67 a b x y (by kernel_rfl)
theorem neqIO (c v : Int) (w : World) : (binOp .neq 67 (.agg #[.int .i64 c, .int .i64 v]) (.agg #[.int .i64 c, .int .i64 v])).run Try.prog w = .ok (.bool false) w := by
  have u9 := Try.underlying2
  have a9 := Try.isAgg2
  have z9 := Try.sizeOf2
  have hS : Try.prog.underlying 67 = some (.struct (Try.prog.fieldsOf 67)) := by kernel_rfl
  have hp : Try.prog.stoodInHeld 67 = false := by kernel_rfl
  rw [run_neq_struct, show (10000 : Nat) = 9999 + 1 from rfl, run_equalIn_agg w 9999 67 _ _ hS hp]
  simp only [Program.fieldsOf, Try.underlying67]
  go_simp
theorem sameMs_self : ∀ l : List Mk, sameMs l l = true
  | [] => rfl
  | x :: l => by simp [sameMs, sameM, sameMs_self l]
theorem sameK_self (s t o : Int) (l : List Mk) : sameK s t o l s t o l = true := by simp [sameK, sameMs_self]
theorem sorted_pw (l : List Mk) : sortedM l = true ↔ l.Pairwise (fun x y => x.tm ≤ y.tm) := by
  rw [List.pairwise_iff_getElem]
  constructor
  · intro h i j hi hj hij
    exact sortedM_le h (j - i) i _ _ (List.getElem?_eq_getElem hi) (by rw [show i + (j - i) = j by omega]; exact List.getElem?_eq_getElem hj)
  · intro h
    rw [sortedM_iff]
    intro i x y hx hy
    obtain ⟨h1, rfl⟩ := List.getElem?_eq_some_iff.1 hx
    obtain ⟨h2, rfl⟩ := List.getElem?_eq_some_iff.1 hy
    exact h i (i + 1) h1 h2 (by omega)
theorem noteL_sorted {l : List Mk} {a0 now : Int} {good : Bool} (h : sortedM l = true) (hl : laterM now l = false) : sortedM (noteL l a0 now good) = true := by
  rw [sorted_pw] at h ⊢
  have hc : (cntL a0 now l).Pairwise (fun x y => x.tm ≤ y.tm) := h.filter _
  have hx : (cntL a0 now l ++ [(⟨now, good⟩ : Mk)]).Pairwise (fun x y => x.tm ≤ y.tm) := by
    rw [List.pairwise_append]
    refine ⟨hc, List.pairwise_singleton _ _, fun x hx y hy => ?_⟩
    obtain rfl := List.mem_singleton.1 hy
    have hm : x ∈ l := (List.mem_filter.1 hx).1
    unfold laterM at hl
    rw [List.any_eq_false] at hl
    have := hl x hm
    simp at this
    exact this
  unfold noteL
  split
  · exact hx.sublist (List.drop_sublist _ _)
  · exact hx
theorem noteL_pos (l : List Mk) (a0 now : Int) (good : Bool) : 1 ≤ (noteL l a0 now good).length ∧ (noteL l a0 now good).length ≤ l.length + 1 := by
  refine ⟨?_, noteL_le l a0 now good⟩
  unfold noteL
  split
  · rename_i h
    rw [List.length_drop]
    omega
  · simp
theorem note_brk {s t o : Int} {l : List Mk} {a0 a1 a2 a3 a4 now : Int} (h : turnC s t o l a0 a1 a2 a3 a4 now = 0) (good : Bool) : brkC (noteV s t o l a0 a1 a2 now good).s (noteV s t o l a0 a1 a2 now good).t (noteV s t o l a0 a1 a2 now good).o (noteV s t o l a0 a1 a2 now good).l = 0 := by
  have g := good_of h
  obtain ⟨h1, h2, h3⟩ := turn_of h
  obtain ⟨b1, b2, b3, b4, b5⟩ := brkC_of h1
  simp only [askK, Bool.and_eq_true, decide_eq_true_eq, Bool.not_eq_true'] at h3
  have tn := h3.1.1
  have tt : timeB t = true := timeB_yes g.ht.1 (by have := g.ht.2; have := g.hnow; omega)
  have em : ∀ (s2 t2 : Int), (s2 = 0 ∨ s2 = 1) → timeB t2 = true → brkC s2 t2 0 [] = 0 := fun s2 t2 hs ht => brkC_ok (by simp only [brkHB, Bool.and_eq_true]; exact ⟨⟨inW_yes (by omega) (by omega), ht⟩, inW_yes (by omega) (by omega)⟩) (by simp) (by simp [timesM]) (by simp [sortedM]) (by simp [stateB])
  rcases g.hs with rfl | rfl | rfl
  · have z := g.ho0 (by decide)
    subst z
    unfold noteV
    simp only [show ¬ (0 : Int) = 1 by decide, show ¬ (0 : Int) = 2 by decide, if_false]
    split
    · exact em 1 now (.inr rfl) tn
    · refine brkC_ok (by simp only [brkHB, Bool.and_eq_true]; exact ⟨⟨inW_yes (by omega) (by omega), tt⟩, inW_yes (by omega) (by omega)⟩) ?_ ?_ (noteL_sorted b4 h3.2) (by simp [stateB])
      · simp only []
        unfold noteL
        split
        · rename_i hx
          have := List.length_filter_le (cntB a0 now) l
          simp only [cntL, List.length_append, List.length_cons, List.length_nil, List.length_drop] at hx ⊢
          omega
        · assumption
      · rw [timesM_iff]
        intro i x hx
        rcases noteL_mem (List.mem_of_getElem? hx) with h | h
        · obtain ⟨j, hj⟩ := List.getElem?_of_mem h
          exact (timesM_iff l).1 b3 j x hj
        · subst h; exact tn
  · simp only [noteV, if_true]
    exact h1
  · have e := g.hl0 (by decide)
    subst e
    cases good
    · simp only [noteV]
      exact em 1 now (.inr rfl) tn
    · simp only [noteV]
      exact em 0 t (.inl rfl) tt
end Go.Proofs.Ytmgidcigihpbeaa
/-
  A breaker that is asked again and again at one time.
-/
namespace Go.Proofs.Ytmgidcigihpbeaa
open Go.ChangeShapes Go.WideShapes Go.ChangeAt Go.RowKit Go.Sort
theorem turn_allow {s t o : Int} {l : List Mk} {a0 a1 a2 a3 a4 now : Int} (h : turnC s t o l a0 a1 a2 a3 a4 now = 0) : brkC (alS s t o a3 a4 now) t (alO s t o a3 a4 now) l = 0 ∧ turnC (alS s t o a3 a4 now) t (alO s t o a3 a4 now) l a0 a1 a2 a3 a4 now = 0 := by
  have g := (good_of h).allow
  obtain ⟨h1, h2, h3⟩ := turn_of h
  obtain ⟨b1, b2, b3, b4, b5⟩ := brkC_of h1
  have e : brkC (alS s t o a3 a4 now) t (alO s t o a3 a4 now) l = 0 := by
    refine brkC_ok ?_ (by omega) b3 b4 ?_
    · simp only [brkHB, Bool.and_eq_true] at b1 ⊢
      exact ⟨⟨inW_yes (by rcases g.hs with h | h | h <;> omega) (by rcases g.hs with h | h | h <;> omega), b1.1.2⟩, inW_yes g.ho.1 g.ho.2⟩
    · simp only [stateB, Bool.and_eq_true, Bool.or_eq_true, decide_eq_true_eq]
      refine ⟨?_, ?_⟩
      · by_cases hz : alS s t o a3 a4 now = 0
        · exact .inr hz
        · exact .inl (by rw [g.hl0 hz]; rfl)
      · by_cases hz : alS s t o a3 a4 now = 2
        · exact .inr hz
        · exact .inl (g.ho0 hz)
  exact ⟨e, by rw [turnC, if_pos e, if_pos h2, if_pos h3]⟩
/-- Behind k times: n were allowed; the state s1 stays. -/
structure BrInv (s1 t a3 a4 now : Int) (k n : Nat) (xs xo : Int) : Prop where
  st : xs = s1
  le : n ≤ k
  c0 : s1 = 0 → n = k
  c1 : s1 = 1 → n = 0 ∧ now - t < a3
  c2 : s1 = 2 → (n : Int) ≤ xo ∧ (n = 0 ∨ xo ≤ a4)
theorem BrInv.start {s t o : Int} {l : List Mk} {a0 a1 a2 a3 a4 now : Int} (h : turnC s t o l a0 a1 a2 a3 a4 now = 0) : BrInv (alS s t o a3 a4 now) t a3 a4 now 0 0 (alS s t o a3 a4 now) (alO s t o a3 a4 now) := by
  have g := good_of h
  have ho := g.allow.ho
  refine ⟨rfl, Nat.le_refl _, fun _ => rfl, fun h1 => ⟨rfl, ?_⟩, fun _ => ⟨by have := ho.1; simpa using this, .inl rfl⟩⟩
  rcases g.hs with rfl | rfl | rfl
  · simp [alS] at h1
  · by_cases hx : now - t < a3
    · exact hx
    · simp [alS, alB, hx] at h1
  · simp [alS] at h1
theorem BrInv.step {s1 t a3 a4 now : Int} {k n : Nat} {xs xo : Int} {l : List Mk} {a0 a1 a2 : Int} (i : BrInv s1 t a3 a4 now k n xs xo) (h : turnC xs t xo l a0 a1 a2 a3 a4 now = 0) :
    (alB xs t xo a3 a4 now = true → BrInv s1 t a3 a4 now (k + 1) (n + 1) (alS xs t xo a3 a4 now) (alO xs t xo a3 a4 now)) ∧ (alB xs t xo a3 a4 now = false → BrInv s1 t a3 a4 now (k + 1) n (alS xs t xo a3 a4 now) (alO xs t xo a3 a4 now)) := by
  have g := good_of h
  have e := i.st
  subst e
  have hle := i.le
  rcases g.hs with rfl | rfl | rfl
  · have e1 : alS 0 t xo a3 a4 now = 0 := by simp [alS]
    have e2 : alO 0 t xo a3 a4 now = xo := by simp [alO]
    rw [e1, e2]
    refine ⟨fun _ => ⟨rfl, by omega, fun _ => by rw [i.c0 rfl], fun h => (by cases h), fun h => (by cases h)⟩, fun h => ?_⟩
    simp [alB] at h
  · have hx := (i.c1 rfl).2
    have e1 : alS 1 t xo a3 a4 now = 1 := by simp [alS, alB, hx]
    rw [e1]
    refine ⟨fun h => ?_, fun _ => ⟨rfl, by omega, fun h => (by cases h), fun _ => i.c1 rfl, fun h => (by cases h)⟩⟩
    simp [alB, hx] at h
  · have e1 : alS 2 t xo a3 a4 now = 2 := by simp [alS]
    rw [e1]
    have hc := i.c2 rfl
    by_cases hx : a4 ≤ xo
    · have e2 : alO 2 t xo a3 a4 now = xo := by simp [alO, alB, hx]
      rw [e2]
      refine ⟨fun h => ?_, fun _ => ⟨rfl, by omega, fun h => (by cases h), fun h => (by cases h), fun _ => hc⟩⟩
      simp [alB, hx] at h
    · have e2 : alO 2 t xo a3 a4 now = xo + 1 := by simp [alO, alB, hx]
      rw [e2]
      refine ⟨fun _ => ⟨rfl, by omega, fun h => (by cases h), fun h => (by cases h), fun _ => ⟨by omega, .inr (by omega)⟩⟩, fun h => ?_⟩
      simp [alB, hx] at h
theorem BrInv.end {s1 t a3 a4 now : Int} {n : Nat} {xs xo : Int} (i : BrInv s1 t a3 a4 now 8 n xs xo) (h4 : 1 ≤ a4) : n ≤ 8 ∧ (s1 = 0 → (n : Int) = 8) ∧ (s1 = 2 → (n : Int) ≤ a4) ∧ (s1 = 1 → (n : Int) = 0) :=
  ⟨i.le, fun h => by have := i.c0 h; omega, fun h => by have := i.c2 h; omega, fun h => by have := (i.c1 h).1; omega⟩
/-- Marks that lie in another block than M. -/
def MkNe (w : World) (M : Nat) (a : Option Addr) (l : List Mk) : Prop := l = [] ∨ ∃ b off, a = some ⟨b, off, none⟩ ∧ b ≠ M ∧ b < w.heap.size ∧ MkAt w b off l
theorem MkNe.of {w : World} {base M : Nat} {a : Option Addr} {n c : Nat} {l : List Mk} (h : MkNew w base (.slice a n c) l) (hM : ∀ g, base ≤ g → g < w.heap.size → g ≠ M) : MkNe w M a l := by
  rcases h with ⟨h, _⟩ | ⟨g, off, cap, e, h1, h2, h3, _⟩
  · exact .inl h
  · simp only [Value.slice.injEq] at e
    exact .inr ⟨g, off, e.1, hM g h1 h2, h2, h3⟩
theorem MkNe.keep {w w' : World} {M : Nat} {a : Option Addr} {l : List Mk} (h : MkNe w M a l) (hb : Below w.heap.size w w') : MkNe w' M a l := by
  rcases h with h | ⟨b, off, e, h1, h2, h3⟩
  · exact .inl h
  · exact .inr ⟨b, off, e, h1, Nat.lt_of_lt_of_le h2 hb.size, h3.keep hb⟩
theorem MkNe.off {w : World} {M i : Nat} {y : Value} {a : Option Addr} {l : List Mk} (h : MkNe w M a l) : MkNe (w.setCell ⟨M, i, none⟩ y) M a l := by
  rcases h with h | ⟨b, off, e, h1, h2, h3⟩
  · exact .inl h
  · refine .inr ⟨b, off, e, h1, by simpa using h2, fun j r hr => ?_⟩
    have ne : ∀ o : Nat, (w.setCell ⟨M, i, none⟩ y).cell? ⟨b, o, none⟩ = w.cell? ⟨b, o, none⟩ := fun o => World.cell?_setCell_other _ _ _ _ (fun e => h1 (congrArg Addr.block e).symm)
    obtain ⟨p0, p1⟩ := h3 j r hr
    exact ⟨by rw [ne]; exact p0, by rw [ne]; exact p1⟩
theorem MkNe.in {w : World} {M : Nat} {a : Option Addr} {l : List Mk} (h : MkNe w M a l) : MkIn w a l := by
  rcases h with h | ⟨b, off, e, _, _, h3⟩
  · exact .inl h
  · exact .inr ⟨b, off, e, h3⟩
end Go.Proofs.Ytmgidcigihpbeaa
/-
  NoteOutcome, by the model.
-/
namespace Go.Proofs.Ytmgidcigihpbeaa
open Go.ChangeShapes Go.WideShapes Go.ChangeAt Go.RowKit Go.Sort
def NoteT (w : World) (base B : Nat) (q : Bk) : Prop := ∃ a c, S4 w B (.int .i64 q.s) (.int .i64 q.t) (.int .i64 q.o) (.slice a q.l.length c) ∧ MkNew w base (.slice a q.l.length c) q.l
set_option maxRecDepth 100000 in
set_option maxHeartbeats 32000000 in
theorem specTurn_any (w : World) (B R : Nat) (hne : R ≠ B) (s t o : Int) (a : Option Addr) (cap : Nat) (l : List Mk) (a0 a1 a2 a3 a4 now : Int) (good : Bool) (hG : Good s t o l a0 a1 a2 a3 a4 now) (hB : S4 w B (.int .i64 s) (.int .i64 t) (.int .i64 o) (.slice a l.length cap)) (hR : S5 w R (.int .i64 a0) (.int .i64 a1) (.int .i64 a2) (.int .i64 a3) (.int .i64 a4)) (hi : MkIn w a l) :
    Calls Try.prog 74 #[.pointer (some ⟨B, 0, none⟩), .pointer (some ⟨R, 0, none⟩), .int .i64 now, .bool good] w fun e w' => e = .returned (.tuple #[]) ∧ NoteT w' w.heap.size B (noteV s t o l a0 a1 a2 now good) ∧ w.grownBy w' (some B) := by
  have HSB : Hid (S4 w B (.int .i64 s) (.int .i64 t) (.int .i64 o) (.slice a l.length cap)) := hB
  rcases hG.hs with rfl | rfl | rfl
  rotate_left
  · have hl := hG.hl0 (by decide)
    subst hl
    have HE : Hid (noteV 1 t o [] a0 a1 a2 now good = ⟨1, t, o, []⟩) := by show _ = _; simp [noteV]
    rw [HE.out]
    clear hG
    obtain ⟨c0, c1, c2, c3, fr, _⟩ := hB
    go_enter Try.func74, Try.ntmps74
    go_wp2_with fail
    exact bodyPost_ret (v := .tuple #[]) (results_none rfl _ _ _) rfl ⟨rfl, ⟨a, cap, HSB.out, MkNew.nil _ _ _ _⟩, gbRefl _ _⟩
  · have hl := hG.hl0 (by decide)
    subst hl
    clear hG
    obtain ⟨c0, c1, c2, c3, fr, _⟩ := hB
    have f0 := fr 0
    have f1 := fr 1
    have f2 := fr 2
    cases good
    · have HE : Hid (noteV 2 t o [] a0 a1 a2 now false = ⟨1, now, 0, []⟩) := by show _ = _; simp [noteV]
      rw [HE.out]
      go_enter Try.func74, Try.ntmps74
      go_wp2_with fail
      exact bodyPost_ret (v := .tuple #[]) (results_none rfl _ _ _) rfl ⟨rfl, ⟨a, cap, (((HSB.out.set0 _).set0 _).set1 _).set2 _, MkNew.nil _ _ _ _⟩, gbTrans (gbTrans (gbTrans (gbSet _ _ _ _) (gbSet _ _ _ _)) (gbSet _ _ _ _)) (gbSet _ _ _ _)⟩
    · have HE : Hid (noteV 2 t o [] a0 a1 a2 now true = ⟨0, t, 0, []⟩) := by show _ = _; simp [noteV]
      rw [HE.out]
      go_enter Try.func74, Try.ntmps74
      go_wp2_with fail
      exact bodyPost_ret (v := .tuple #[]) (results_none rfl _ _ _) rfl ⟨rfl, ⟨a, cap, (HSB.out.set0 _).set2 _, MkNew.nil _ _ _ _⟩, gbTrans (gbSet _ _ _ _) (gbSet _ _ _ _)⟩
  have HNR : Hid (R ≠ B) := hne
  have HBL : Hid (B < w.heap.size) := hB.lt
  have HRL : Hid (R < w.heap.size) := hR.lt
  have HR2 : Hid (1 ≤ a2 ∧ a2 ≤ 1000) := hG.hr2
  have HSR : Hid (S5 w R (.int .i64 a0) (.int .i64 a1) (.int .i64 a2) (.int .i64 a3) (.int .i64 a4)) := hR
  have HI : Hid (MkIn w a l) := hi
  have HTS : Hid (∀ (i : Nat) x, l[i]? = some x → 0 ≤ x.tm ∧ x.tm ≤ 1000000000000000) := hG.hts
  have HAD : Hid (∀ x w, 0 ≤ x → x ≤ 1000000000000000 → Calls Try.prog 49 #[.int .i64 x, .int .i64 a0] w fun r w' => r = .returned (.int .i64 (addT x a0)) ∧ Below w.heap.size w w') := fun x w h1 h2 => (l1Add_all x a0 ⟨h1, h2⟩ ⟨by have := hG.hr0; omega, by have := hG.hr0; omega⟩ w).mono fun _ _ ⟨e, e2⟩ => ⟨e, by rw [e2]; exact Below.refl _ _⟩
  have hl := hG.hn
  obtain ⟨c0, c1, c2, c3, fr, _⟩ := hB
  have HO0 : Hid (OwnMk (w.alloc (.cells #[] 112)) w.heap.size (.slice (some ⟨w.heap.size, 0, none⟩) 0 0) []) := OwnMk.made0 w w.heap.size (Nat.le_refl _)
  have HB0 : Hid (Below w.heap.size w (w.alloc (.cells #[] 112))) := (Below.refl _ _).alloc (Nat.le_refl _) _
  obtain ⟨nl, hnl⟩ : ∃ nl, noteL l a0 now good = nl := ⟨_, rfl⟩
  have HNL : Hid (nl = if 60 < (cntL a0 now l ++ [(⟨now, good⟩ : Mk)]).length then (cntL a0 now l ++ [(⟨now, good⟩ : Mk)]).drop 1 else cntL a0 now l ++ [(⟨now, good⟩ : Mk)]) := by show _ = _; rw [← hnl]; rfl
  have HNV1 : Hid (tooB nl a1 a2 = true → noteV 0 t o l a0 a1 a2 now good = ⟨1, now, o, []⟩) := fun h => by rw [← hnl] at h; simp [noteV, h]
  have HNV0 : Hid (tooB nl a1 a2 = false → noteV 0 t o l a0 a1 a2 now good = ⟨0, t, o, nl⟩) := fun h => by rw [← hnl] at h ⊢; simp [noteV, h]
  clear hR hi hG hne hnl
  generalize noteV 0 t o l a0 a1 a2 now good = nv at *
  obtain ⟨n, hn⟩ : ∃ n, l.length = n := ⟨_, rfl⟩
  have HN : Hid (l.length = n) := hn
  rw [hn] at hl c3 HSB
  clear hn
  go_enter Try.func74, Try.ntmps74
  go_wp2_with fail
  go_loopw [8, 9] (fun v i wr => ∃ k : Nat, k ≤ n ∧ i = .int .i64 k ∧ OwnMk wr w.heap.size v (cntL a0 now (l.take k)) ∧ Below w.heap.size w wr) (fun _ i _ => n - (intOf i).toNat)
  case atStart => exact ⟨0, Nat.zero_le _, rfl, HO0.out, HB0.out⟩
  case round =>
    obtain ⟨k, hk, rfl, ho, hb⟩ := hrel
    clear c0 c1 c2 c3 fr
    have HKr : Hid (S4 wr B (.int .i64 0) (.int .i64 t) (.int .i64 o) (.slice a n cap) ∧ S5 wr R (.int .i64 a0) (.int .i64 a1) (.int .i64 a2) (.int .i64 a3) (.int .i64 a4)) := ⟨HSB.out.keep hb, HSR.out.keep hb⟩
    obtain ⟨c0, c1, c2, c3, fr, _⟩ := HKr.out.1
    obtain ⟨d0, d1, d2, d3, d4, fd, _⟩ := HKr.out.2
    have hbs := hb.size
    by_cases hlt : k < n
    · obtain ⟨r, hr⟩ : ∃ r, l[k]? = some r := ⟨l[k]'(by have := HN.out; omega), List.getElem?_eq_getElem _⟩
      rcases (HI.out.keep hb) with h | ⟨b, off, rfl, hat⟩
      · subst h; simp at hr
      obtain ⟨p0, p1⟩ := hat k r hr
      obtain ⟨t0, t1⟩ := HTS.out k r hr
      have cA : ∀ d os, Calls Try.prog 49 #[.int .i64 r.tm, .int .i64 a0] (grow (redrawn wr d) os) fun e w'' => e = .returned (.int .i64 (addT r.tm a0)) ∧ ∃ p : Regrown, w'' = grow (redrawn wr p.d) p.os := fun d os => Calls.regrown_of (HAD.out _ _ t0 t1)
      have HX := cntL_take a0 now hr
      have hcl : (cntL a0 now (l.take k)).length ≤ 60 := by have := cntL_le a0 now (l.take k); have := List.length_take_le k l; have := HN.out; simp at *; omega
      have P0 := cell_regrown p0
      have C3 := cell_regrown c3
      have D0 := cell_regrown d0
      have HP : Hid (wr.cell? ⟨b, off + k * 2, none⟩ = some (.int .i64 r.tm) ∧ wr.cell? ⟨b, off + k * 2 + 1, none⟩ = some (.bool r.gd)) := ⟨p0, p1⟩
      have HO : Hid (OwnMk wr w.heap.size u8 (cntL a0 now (l.take k)) ∧ Below w.heap.size w wr) := ⟨ho, hb⟩
      have g0 : (0 : Int) ≤ k := by omega
      have gk : (k : Int) < n := by omega
      have HRR : Hid ((⟨r.tm, r.gd⟩ : Mk) = r) := rfl
      clear hr hat ho hb HI p0 p1 HNL HNV1 HNV0 HO0 HB0
      cases hc : cntB a0 now r
      · rw [hc] at HX
        have HF : Hid (cntL a0 now (l.take (k + 1)) = cntL a0 now (l.take k)) := by show _ = _; rw [HX]; simp
        have gx : ¬ now < addT r.tm a0 := by simpa [cntB] using hc
        have gd : decide (now < addT r.tm a0) = false := by simpa using gx
        clear HX hc HRR
        generalize addT r.tm a0 = z at *
        generalize r.tm = rt at *
        generalize r.gd = rg at *
        go_wp2_with fail
        refine wp_region_quiet_below (by kernel_rfl) (by kernel_rfl) ?_
        repeat (go_big_quiet_step ((go_at_call 49; exact cA _ _)))
        refine wpQuiet_nil ?_
        intro wq hwq
        obtain ⟨⟨d, os⟩, hd⟩ := hwq
        have bq : Below wr.heap.size wr wq := by rw [hd]; exact below_regrown wr d os
        have HQ : Hid (OwnMk wq w.heap.size u8 (cntL a0 now (l.take k)) ∧ Below w.heap.size w wq) := ⟨HO.out.1.below bq, HO.out.2.trans (bq.mono HO.out.2.size)⟩
        clear P0 C3 D0 cA hd bq HO
        go_wp2_with fail
        go_roundw
        case rel => exact ⟨k + 1, by omega, by go_num, by rw [HF.out]; exact HQ.out.1, HQ.out.2⟩
        case measure => simp [intOf]; omega
      · rw [hc] at HX
        have HF : Hid (cntL a0 now (l.take (k + 1)) = cntL a0 now (l.take k) ++ [(⟨r.tm, r.gd⟩ : Mk)]) := by show _ = _; rw [HX]; simp
        have gx : now < addT r.tm a0 := by simpa [cntB] using hc
        have gd : decide (now < addT r.tm a0) = true := by simpa using gx
        clear HX hc HRR
        generalize addT r.tm a0 = z at *
        generalize r.tm = rt at *
        generalize r.gd = rg at *
        generalize cntL a0 now (l.take k) = Lk at *
        go_wp2_with fail
        refine wp_region_quiet_below (by kernel_rfl) (by kernel_rfl) ?_
        repeat (go_big_quiet_step ((go_at_call 49; exact cA _ _)))
        refine wpQuiet_nil ?_
        intro wq hwq
        obtain ⟨⟨d, os⟩, hd⟩ := hwq
        have bq : Below wr.heap.size wr wq := by rw [hd]; exact below_regrown wr d os
        have HQ : Hid (OwnMk wq w.heap.size u8 Lk ∧ Below w.heap.size w wq) := ⟨HO.out.1.below bq, HO.out.2.trans (bq.mono HO.out.2.size)⟩
        have hqs : w.heap.size ≤ wq.heap.size := HQ.out.2.size
        have z3 := cell_keep10 c3 bq
        have z0 := cell_keep10 HP.out.1 bq
        have z1 := cell_keep10 HP.out.2 bq
        clear P0 C3 D0 cA hd bq HO c0 c1 c2 c3 fr d0 d1 d2 d3 d4 fd HP
        go_wp2_with (at_builtin; refine wpList_append1Mk wq rfl (.tmp 59) (.tmp 67) rfl w.heap.size _ Lk ⟨rt, rg⟩ rfl (by simp [go_sem]) HQ.out.1 (by omega) hqs ?_; intro v4 w4 ho4 hb4 hg4)
        go_roundw
        case rel => exact ⟨k + 1, by omega, by go_num, by rw [HF.out]; exact ho4, HQ.out.2.trans hb4⟩
        case measure => simp [intOf]; omega
    · have HF : Hid (cntL a0 now l = cntL a0 now (l.take k)) := by
        show _ = _
        rw [List.take_of_length_le (by have := HN.out; omega)]
      have HO : Hid (OwnMk wr w.heap.size u8 (cntL a0 now l) ∧ Below w.heap.size w wr) := ⟨by rw [HF.out]; exact ho, hb⟩
      have hcl : (cntL a0 now l).length ≤ 60 := by have := cntL_le a0 now l; have := HN.out; omega
      clear ho hb HF HI HTS HAD HO0 HB0 HSR HSB d0 d1 d2 d3 d4 fd
      generalize cntL a0 now l = Lc at *
      go_upto_region 15 with (at_builtin; refine wpList_append1Mk wr rfl (.tmp 69) (.tmp 73) rfl w.heap.size _ Lc (⟨now, good⟩ : Mk) rfl (by simp [go_sem]) HO.out.1 (by omega) hbs ?_; intro v4 V ho4 hb4 hg4; have hlen : (Lc ++ [(⟨now, good⟩ : Mk)]).length = Lc.length + 1 := (by simp); have hnew := ho4.new; obtain ⟨g, vc, rfl, hvc⟩ := ho4.some (by omega); rw [hlen] at hnew hvc HNL ⊢; obtain ⟨cn, hcn⟩ : ∃ n, Lc.length = n := ⟨_, rfl⟩; rw [hcn] at hnew hvc hlen hcl HNL ⊢; have HX : Hid (MkNew V w.heap.size (.slice (some ⟨g, 0, none⟩) (cn + 1) vc) (Lc ++ [(⟨now, good⟩ : Mk)]) ∧ Below w.heap.size wr V) := ⟨hnew, hb4⟩; have HML : Hid ((Lc ++ [(⟨now, good⟩ : Mk)]).length = cn + 1) := hlen; clear ho4 hb4 hg4 hnew hlen hcn c0 c1 c2 c3 fr)
      have HKV : Hid (S4 V B (.int .i64 0) (.int .i64 t) (.int .i64 o) (.slice a n cap) ∧ S5 V R (.int .i64 a0) (.int .i64 a1) (.int .i64 a2) (.int .i64 a3) (.int .i64 a4) ∧ w.grownBy V (some B)) := ⟨HKr.out.1.low HX.out.2 HBL.out, HKr.out.2.low HX.out.2 HRL.out, gbBelow _ (HO.out.2.trans HX.out.2)⟩
      clear HKr HO
      obtain ⟨c0, c1, c2, c3, fr, _⟩ := HKV.out.1
      have f3 := fr 3
      by_cases hbig : 60 < cn + 1
      · have ecn : cn = 60 := by omega
        subst ecn
        have HNE : Hid (nl = (Lc ++ [(⟨now, good⟩ : Mk)]).drop 1) := by show _ = _; rw [HNL.out, if_pos hbig]
        have HND : Hid (MkNew V w.heap.size (.slice (some ⟨g, 2, none⟩) (60) (vc - 1)) nl) := by rw [HNE.out]; exact HX.out.1.drop1 HML.out
        have HLN : Hid (nl.length = 60) := by show _ = _; rw [HNE.out, List.length_drop, HML.out]
        clear HNL HNE hbig
        have hv1 : (61 : Int) ≤ vc := by omega
        obtain ⟨V1, hV1⟩ : ∃ V1, V1 = V.setCell ⟨B, 3, none⟩ (.slice (some ⟨g, 2, none⟩) (60) (vc - 1)) := ⟨_, rfl⟩
        have HV1 : Hid (V1 = V.setCell ⟨B, 3, none⟩ (.slice (some ⟨g, 2, none⟩) (60) (vc - 1))) := hV1
        have g1 : V.grownBy V1 (some B) := by rw [hV1]; exact gbSet _ _ _ _
        have HT1 : Hid (S4 V1 B (.int .i64 0) (.int .i64 t) (.int .i64 o) (.slice (some ⟨g, 2, none⟩) (60) (vc - 1)) ∧ S5 V1 R (.int .i64 a0) (.int .i64 a1) (.int .i64 a2) (.int .i64 a3) (.int .i64 a4) ∧ MkNew V1 w.heap.size (.slice (some ⟨g, 2, none⟩) (60) (vc - 1)) nl ∧ w.grownBy V1 (some B)) := by
          refine ⟨?_, HKV.out.2.1.gb g1 HNR.out, HND.out.gb2 g1 HBL.out, gbTrans HKV.out.2.2 g1⟩
          rw [hV1]; exact HKV.out.1.set3 _
        have hnl61 : nl.length ≤ 61 := by rw [HLN.out]; omega
        have mr := mul_room HR2.out (show nl.length ≤ 100 by omega)
        have bl := badM_le nl
        have x1 : IntKind.i64.wrap (1000 * (badM nl : Int)) = 1000 * (badM nl : Int) := by rw [IntKind.wrap_i64]; omega
        have x2 : IntKind.i64.wrap (a2 * (60 : Int)) = a2 * (60 : Int) := by rw [HLN.out] at mr; have mr2 : 0 ≤ a2 * (60 : Int) ∧ a2 * (60 : Int) ≤ 100000 := mr; rw [IntKind.wrap_i64]; omega
        have cB : ∀ d os, Calls Try.prog 76 #[.slice (some ⟨g, 2, none⟩) (60) (vc - 1)] (grow (redrawn V1 d) os) fun e w'' => e = .returned (.int .i64 (badM nl : Int)) ∧ ∃ p : Regrown, w'' = grow (redrawn V1 p.d) p.os := fun d os => Calls.regrown_of (by
          have := specBad_any (grow (redrawn V1 d) os) (some ⟨g, 2, none⟩) (vc - 1) nl (by omega) (by obtain ⟨x, y, e, hin⟩ := (HT1.out.2.2.1.keep (below_regrown V1 d os)).in; simp only [Value.slice.injEq] at e; rw [e.1]; exact hin)
          rw [HLN.out] at this
          exact this)
        have D1 := cell_regrown HT1.out.2.1.c1
        have D2 := cell_regrown HT1.out.2.1.c2
        have HTT : Hid (tooB nl a1 a2 = (decide (a1 ≤ (60 : Int)) && decide (a2 * (60 : Int) ≤ 1000 * (badM nl : Int)))) := by show _ = _; rw [tooB, HLN.out]; rfl
        have y3 := HKV.out.1.c3
        have yf := HKV.out.1.fr 3
        generalize (badM nl : Int) = bm at *
        clear hV1 g1 mr bl hnl61
        by_cases g1 : a1 ≤ (60 : Int)
        · have d1 : decide (a1 ≤ (60 : Int)) = true := by simpa using g1
          by_cases g2 : a2 * (60 : Int) ≤ 1000 * bm
          · have d2 : decide (a2 * (60 : Int) ≤ 1000 * bm) = true := by simpa using g2
            have HN2 : Hid (nv = ⟨1, now, o, []⟩) := HNV1.out (by rw [HTT.out, d1, d2]; rfl)
            clear HTT HNV1 HNV0
            go_wp2_with fail
            rw [← HV1.out]
            refine wp_region_quiet_below (by kernel_rfl) (by kernel_rfl) ?_
            repeat (go_big_quiet_step ((go_at_call 76; exact cB _ _)))
            refine wpQuiet_nil ?_
            intro wq hwq
            obtain ⟨⟨d, os⟩, hd⟩ := hwq
            have b6 : Below V1.heap.size V1 wq := by rw [hd]; exact below_regrown V1 d os
            have HT6 : Hid (S4 wq B (.int .i64 0) (.int .i64 t) (.int .i64 o) (.slice (some ⟨g, 2, none⟩) (60) (vc - 1)) ∧ MkNew wq w.heap.size (.slice (some ⟨g, 2, none⟩) (60) (vc - 1)) nl ∧ w.grownBy wq (some B)) := ⟨HT1.out.1.keep b6, HT1.out.2.2.1.keep b6, gbTrans HT1.out.2.2.2 (gbBelow _ b6)⟩
            clear D1 D2 cB hd b6 HT1 HV1
            obtain ⟨q0, q1, q2, q3, qf, _⟩ := HT6.out.1
            have qf0 := qf 0
            have qf1 := qf 1
            have qf3 := qf 3
            clear qf
            go_wp2_with fail
            exact bodyPost_end (v := .tuple #[]) (by simp [results, Try.results74, go_sem]) rfl ⟨rfl, ⟨none, 0, by rw [HN2.out]; exact ((HT6.out.1.set0 _).set1 _).set3 _, by rw [HN2.out]; exact MkNew.nil _ _ _ _⟩, gbTrans (gbTrans (gbTrans HT6.out.2.2 (gbSet _ _ _ _)) (gbSet _ _ _ _)) (gbSet _ _ _ _)⟩
          · have d2 : decide (a2 * (60 : Int) ≤ 1000 * bm) = false := by simpa using g2
            have HN2 : Hid (nv = ⟨0, t, o, nl⟩) := HNV0.out (by rw [HTT.out, d2]; simp)
            clear HTT HNV1 HNV0
            go_wp2_with fail
            rw [← HV1.out]
            refine wp_region_quiet_below (by kernel_rfl) (by kernel_rfl) ?_
            repeat (go_big_quiet_step ((go_at_call 76; exact cB _ _)))
            refine wpQuiet_nil ?_
            intro wq hwq
            obtain ⟨⟨d, os⟩, hd⟩ := hwq
            have b6 : Below V1.heap.size V1 wq := by rw [hd]; exact below_regrown V1 d os
            have HT6 : Hid (S4 wq B (.int .i64 0) (.int .i64 t) (.int .i64 o) (.slice (some ⟨g, 2, none⟩) (60) (vc - 1)) ∧ MkNew wq w.heap.size (.slice (some ⟨g, 2, none⟩) (60) (vc - 1)) nl ∧ w.grownBy wq (some B)) := ⟨HT1.out.1.keep b6, HT1.out.2.2.1.keep b6, gbTrans HT1.out.2.2.2 (gbBelow _ b6)⟩
            clear D1 D2 cB hd b6 HT1 HV1
            go_wp2_with fail
            exact bodyPost_end (v := .tuple #[]) (by simp [results, Try.results74, go_sem]) rfl ⟨rfl, ⟨some ⟨g, 2, none⟩, (vc - 1), by rw [HN2.out, HLN.out]; exact HT6.out.1, by rw [HN2.out, HLN.out]; exact HT6.out.2.1⟩, HT6.out.2.2⟩
        · have d1 : decide (a1 ≤ (60 : Int)) = false := by simpa using g1
          have HN2 : Hid (nv = ⟨0, t, o, nl⟩) := HNV0.out (by rw [HTT.out, d1]; simp)
          clear HTT HNV1 HNV0
          go_wp2_with fail
          rw [← HV1.out]
          refine wp_region_quiet_below (by kernel_rfl) (by kernel_rfl) ?_
          repeat (go_big_quiet_step ((go_at_call 76; exact cB _ _)))
          refine wpQuiet_nil ?_
          intro wq hwq
          obtain ⟨⟨d, os⟩, hd⟩ := hwq
          have b6 : Below V1.heap.size V1 wq := by rw [hd]; exact below_regrown V1 d os
          have HT6 : Hid (S4 wq B (.int .i64 0) (.int .i64 t) (.int .i64 o) (.slice (some ⟨g, 2, none⟩) (60) (vc - 1)) ∧ MkNew wq w.heap.size (.slice (some ⟨g, 2, none⟩) (60) (vc - 1)) nl ∧ w.grownBy wq (some B)) := ⟨HT1.out.1.keep b6, HT1.out.2.2.1.keep b6, gbTrans HT1.out.2.2.2 (gbBelow _ b6)⟩
          clear D1 D2 cB hd b6 HT1 HV1
          go_wp2_with fail
          exact bodyPost_end (v := .tuple #[]) (by simp [results, Try.results74, go_sem]) rfl ⟨rfl, ⟨some ⟨g, 2, none⟩, (vc - 1), by rw [HN2.out, HLN.out]; exact HT6.out.1, by rw [HN2.out, HLN.out]; exact HT6.out.2.1⟩, HT6.out.2.2⟩
      · have HNE : Hid (nl = Lc ++ [(⟨now, good⟩ : Mk)]) := by show _ = _; rw [HNL.out, if_neg hbig]
        have HND : Hid (MkNew V w.heap.size (.slice (some ⟨g, 0, none⟩) (cn + 1) vc) nl) := by rw [HNE.out]; exact HX.out.1
        have HLN : Hid (nl.length = cn + 1) := by show _ = _; rw [HNE.out, HML.out]
        have hs1 : ¬ (60 : Int) < ((cn + 1 : Nat) : Int) := by omega
        clear HNL HNE
        obtain ⟨V1, hV1⟩ : ∃ V1, V1 = V.setCell ⟨B, 3, none⟩ (.slice (some ⟨g, 0, none⟩) (cn + 1) vc) := ⟨_, rfl⟩
        have HV1 : Hid (V1 = V.setCell ⟨B, 3, none⟩ (.slice (some ⟨g, 0, none⟩) (cn + 1) vc)) := hV1
        have g1 : V.grownBy V1 (some B) := by rw [hV1]; exact gbSet _ _ _ _
        have HT1 : Hid (S4 V1 B (.int .i64 0) (.int .i64 t) (.int .i64 o) (.slice (some ⟨g, 0, none⟩) (cn + 1) vc) ∧ S5 V1 R (.int .i64 a0) (.int .i64 a1) (.int .i64 a2) (.int .i64 a3) (.int .i64 a4) ∧ MkNew V1 w.heap.size (.slice (some ⟨g, 0, none⟩) (cn + 1) vc) nl ∧ w.grownBy V1 (some B)) := by
          refine ⟨?_, HKV.out.2.1.gb g1 HNR.out, HND.out.gb2 g1 HBL.out, gbTrans HKV.out.2.2 g1⟩
          rw [hV1]; exact HKV.out.1.set3 _
        have hnl61 : nl.length ≤ 61 := by rw [HLN.out]; omega
        have mr := mul_room HR2.out (show nl.length ≤ 100 by omega)
        have bl := badM_le nl
        have x1 : IntKind.i64.wrap (1000 * (badM nl : Int)) = 1000 * (badM nl : Int) := by rw [IntKind.wrap_i64]; omega
        have x2 : IntKind.i64.wrap (a2 * ((cn : Int) + 1)) = a2 * ((cn : Int) + 1) := by rw [HLN.out] at mr; have mr2 : 0 ≤ a2 * ((cn : Int) + 1) ∧ a2 * ((cn : Int) + 1) ≤ 100000 := mr; rw [IntKind.wrap_i64]; omega
        have cB : ∀ d os, Calls Try.prog 76 #[.slice (some ⟨g, 0, none⟩) (cn + 1) vc] (grow (redrawn V1 d) os) fun e w'' => e = .returned (.int .i64 (badM nl : Int)) ∧ ∃ p : Regrown, w'' = grow (redrawn V1 p.d) p.os := fun d os => Calls.regrown_of (by
          have := specBad_any (grow (redrawn V1 d) os) (some ⟨g, 0, none⟩) vc nl (by omega) (by obtain ⟨x, y, e, hin⟩ := (HT1.out.2.2.1.keep (below_regrown V1 d os)).in; simp only [Value.slice.injEq] at e; rw [e.1]; exact hin)
          rw [HLN.out] at this
          exact this)
        have D1 := cell_regrown HT1.out.2.1.c1
        have D2 := cell_regrown HT1.out.2.1.c2
        have HTT : Hid (tooB nl a1 a2 = (decide (a1 ≤ ((cn : Int) + 1)) && decide (a2 * ((cn : Int) + 1) ≤ 1000 * (badM nl : Int)))) := by show _ = _; rw [tooB, HLN.out]; rfl
        have y3 := HKV.out.1.c3
        have yf := HKV.out.1.fr 3
        generalize (badM nl : Int) = bm at *
        clear hV1 g1 mr bl hnl61
        by_cases g1 : a1 ≤ ((cn : Int) + 1)
        · have d1 : decide (a1 ≤ ((cn : Int) + 1)) = true := by simpa using g1
          by_cases g2 : a2 * ((cn : Int) + 1) ≤ 1000 * bm
          · have d2 : decide (a2 * ((cn : Int) + 1) ≤ 1000 * bm) = true := by simpa using g2
            have HN2 : Hid (nv = ⟨1, now, o, []⟩) := HNV1.out (by rw [HTT.out, d1, d2]; rfl)
            clear HTT HNV1 HNV0
            go_wp2_with fail
            rw [← HV1.out]
            refine wp_region_quiet_below (by kernel_rfl) (by kernel_rfl) ?_
            repeat (go_big_quiet_step ((go_at_call 76; exact cB _ _)))
            refine wpQuiet_nil ?_
            intro wq hwq
            obtain ⟨⟨d, os⟩, hd⟩ := hwq
            have b6 : Below V1.heap.size V1 wq := by rw [hd]; exact below_regrown V1 d os
            have HT6 : Hid (S4 wq B (.int .i64 0) (.int .i64 t) (.int .i64 o) (.slice (some ⟨g, 0, none⟩) (cn + 1) vc) ∧ MkNew wq w.heap.size (.slice (some ⟨g, 0, none⟩) (cn + 1) vc) nl ∧ w.grownBy wq (some B)) := ⟨HT1.out.1.keep b6, HT1.out.2.2.1.keep b6, gbTrans HT1.out.2.2.2 (gbBelow _ b6)⟩
            clear D1 D2 cB hd b6 HT1 HV1
            obtain ⟨q0, q1, q2, q3, qf, _⟩ := HT6.out.1
            have qf0 := qf 0
            have qf1 := qf 1
            have qf3 := qf 3
            clear qf
            go_wp2_with fail
            exact bodyPost_end (v := .tuple #[]) (by simp [results, Try.results74, go_sem]) rfl ⟨rfl, ⟨none, 0, by rw [HN2.out]; exact ((HT6.out.1.set0 _).set1 _).set3 _, by rw [HN2.out]; exact MkNew.nil _ _ _ _⟩, gbTrans (gbTrans (gbTrans HT6.out.2.2 (gbSet _ _ _ _)) (gbSet _ _ _ _)) (gbSet _ _ _ _)⟩
          · have d2 : decide (a2 * ((cn : Int) + 1) ≤ 1000 * bm) = false := by simpa using g2
            have HN2 : Hid (nv = ⟨0, t, o, nl⟩) := HNV0.out (by rw [HTT.out, d2]; simp)
            clear HTT HNV1 HNV0
            go_wp2_with fail
            rw [← HV1.out]
            refine wp_region_quiet_below (by kernel_rfl) (by kernel_rfl) ?_
            repeat (go_big_quiet_step ((go_at_call 76; exact cB _ _)))
            refine wpQuiet_nil ?_
            intro wq hwq
            obtain ⟨⟨d, os⟩, hd⟩ := hwq
            have b6 : Below V1.heap.size V1 wq := by rw [hd]; exact below_regrown V1 d os
            have HT6 : Hid (S4 wq B (.int .i64 0) (.int .i64 t) (.int .i64 o) (.slice (some ⟨g, 0, none⟩) (cn + 1) vc) ∧ MkNew wq w.heap.size (.slice (some ⟨g, 0, none⟩) (cn + 1) vc) nl ∧ w.grownBy wq (some B)) := ⟨HT1.out.1.keep b6, HT1.out.2.2.1.keep b6, gbTrans HT1.out.2.2.2 (gbBelow _ b6)⟩
            clear D1 D2 cB hd b6 HT1 HV1
            go_wp2_with fail
            exact bodyPost_end (v := .tuple #[]) (by simp [results, Try.results74, go_sem]) rfl ⟨rfl, ⟨some ⟨g, 0, none⟩, vc, by rw [HN2.out, HLN.out]; exact HT6.out.1, by rw [HN2.out, HLN.out]; exact HT6.out.2.1⟩, HT6.out.2.2⟩
        · have d1 : decide (a1 ≤ ((cn : Int) + 1)) = false := by simpa using g1
          have HN2 : Hid (nv = ⟨0, t, o, nl⟩) := HNV0.out (by rw [HTT.out, d1]; simp)
          clear HTT HNV1 HNV0
          go_wp2_with fail
          rw [← HV1.out]
          refine wp_region_quiet_below (by kernel_rfl) (by kernel_rfl) ?_
          repeat (go_big_quiet_step ((go_at_call 76; exact cB _ _)))
          refine wpQuiet_nil ?_
          intro wq hwq
          obtain ⟨⟨d, os⟩, hd⟩ := hwq
          have b6 : Below V1.heap.size V1 wq := by rw [hd]; exact below_regrown V1 d os
          have HT6 : Hid (S4 wq B (.int .i64 0) (.int .i64 t) (.int .i64 o) (.slice (some ⟨g, 0, none⟩) (cn + 1) vc) ∧ MkNew wq w.heap.size (.slice (some ⟨g, 0, none⟩) (cn + 1) vc) nl ∧ w.grownBy wq (some B)) := ⟨HT1.out.1.keep b6, HT1.out.2.2.1.keep b6, gbTrans HT1.out.2.2.2 (gbBelow _ b6)⟩
          clear D1 D2 cB hd b6 HT1 HV1
          go_wp2_with fail
          exact bodyPost_end (v := .tuple #[]) (by simp [results, Try.results74, go_sem]) rfl ⟨rfl, ⟨some ⟨g, 0, none⟩, vc, by rw [HN2.out, HLN.out]; exact HT6.out.1, by rw [HN2.out, HLN.out]; exact HT6.out.2.1⟩, HT6.out.2.2⟩
end Go.Proofs.Ytmgidcigihpbeaa
/-
  NoteOutcome, by the model.
-/
namespace Go.Proofs.Ytmgidcigihpbeaa
open Go.ChangeShapes Go.WideShapes Go.ChangeAt Go.RowKit Go.Sort
set_option maxRecDepth 100000 in
set_option maxHeartbeats 8000000 in
theorem specNote_any (w : World) (s t o : Int) (a : Option Addr) (cap : Nat) (l : List Mk) (a0 a1 a2 a3 a4 now : Int) (good : Bool) (hl : l.length ≤ 1048576) (hi : MkIn w a l) :
    Calls Try.prog 34 #[.agg #[.int .i64 s, .int .i64 t, .int .i64 o, .slice a l.length cap], .agg #[.int .i64 a0, .int .i64 a1, .int .i64 a2, .int .i64 a3, .int .i64 a4], .int .i64 now, .bool good] w fun e w' => NoteRes w' w.heap.size (noteR s t o l a0 a1 a2 a3 a4 now good) e ∧ Below w.heap.size w w' := by
  obtain ⟨W, hW⟩ : ∃ W, W = ((w.alloc (.cells #[.int .i64 s, .int .i64 t, .int .i64 o, .slice a l.length cap] 51)).alloc (.cells #[.int .i64 a0, .int .i64 a1, .int .i64 a2, .int .i64 a3, .int .i64 a4] 53)).alloc (.cells #[.int .i64 0, .int .i64 0, .int .i64 0, .int .i64 0, .slice none 0 0] 64) := ⟨_, rfl⟩
  have HW : Hid (W = ((w.alloc (.cells #[.int .i64 s, .int .i64 t, .int .i64 o, .slice a l.length cap] 51)).alloc (.cells #[.int .i64 a0, .int .i64 a1, .int .i64 a2, .int .i64 a3, .int .i64 a4] 53)).alloc (.cells #[.int .i64 0, .int .i64 0, .int .i64 0, .int .i64 0, .slice none 0 0] 64)) := hW
  have K0 : Hid ((Below w.heap.size w W ∧ S4 W w.heap.size (.int .i64 s) (.int .i64 t) (.int .i64 o) (.slice a l.length cap) ∧ S5 W (w.heap.size + 1) (.int .i64 a0) (.int .i64 a1) (.int .i64 a2) (.int .i64 a3) (.int .i64 a4) ∧ C5 W (w.heap.size + 2) (.int .i64 0) (.int .i64 0) (.int .i64 0) (.int .i64 0) (.slice none 0 0)) ∧ W.heap.size = w.heap.size + 3) := by
    have h1 := S4.new w (.int .i64 s) (.int .i64 t) (.int .i64 o) (.slice a l.length cap) 51
    obtain ⟨W1, hW1⟩ : ∃ W1, W1 = w.alloc (.cells #[.int .i64 s, .int .i64 t, .int .i64 o, .slice a l.length cap] 51) := ⟨_, rfl⟩
    rw [← hW1] at h1 hW
    have e1 : W1.heap.size = w.heap.size + 1 := by rw [hW1]; simp
    have b1 : Below w.heap.size w W1 := by rw [hW1]; exact (Below.refl _ _).alloc (Nat.le_refl _) _
    have h2 := S5.new W1 (.int .i64 a0) (.int .i64 a1) (.int .i64 a2) (.int .i64 a3) (.int .i64 a4) 53
    obtain ⟨W2, hW2⟩ : ∃ W2, W2 = W1.alloc (.cells #[.int .i64 a0, .int .i64 a1, .int .i64 a2, .int .i64 a3, .int .i64 a4] 53) := ⟨_, rfl⟩
    rw [← hW2] at h2 hW
    have e2 : W2.heap.size = w.heap.size + 2 := by rw [hW2]; simp [e1]
    have b2 : Below W1.heap.size W1 W2 := by rw [hW2]; exact (Below.refl _ _).alloc (Nat.le_refl _) _
    have b3 : Below W2.heap.size W2 W := by rw [hW]; exact (Below.refl _ _).alloc (Nat.le_refl _) _
    have h3 := C5.new W2 (.int .i64 0) (.int .i64 0) (.int .i64 0) (.int .i64 0) (.slice none 0 0) 64
    rw [← hW] at h3
    rw [e1] at h2
    rw [e2] at h3
    have b13 := b2.trans (b3.mono b2.size)
    exact ⟨⟨b1.trans (b13.mono b1.size), h1.keep b13, h2.keep b3, h3⟩, by rw [hW]; simp [e2]⟩
  have HA : Hid (Calls Try.prog 65 #[.pointer (some ⟨w.heap.size, 0, none⟩), .pointer (some ⟨w.heap.size + 1, 0, none⟩), .int .i64 now] W fun e w' => e = .returned (.int .i64 (turnC s t o l a0 a1 a2 a3 a4 now)) ∧ Below W.heap.size W w') := specAsk_any W w.heap.size (w.heap.size + 1) s t o a cap l a0 a1 a2 a3 a4 now K0.out.1.2.1 K0.out.1.2.2.1 (hi.keep K0.out.1.1)
  have HC : Hid (∀ X, (Below w.heap.size w X ∧ S4 X w.heap.size (.int .i64 s) (.int .i64 t) (.int .i64 o) (.slice a l.length cap) ∧ S5 X (w.heap.size + 1) (.int .i64 a0) (.int .i64 a1) (.int .i64 a2) (.int .i64 a3) (.int .i64 a4) ∧ C5 X (w.heap.size + 2) (.int .i64 0) (.int .i64 0) (.int .i64 0) (.int .i64 0) (.slice none 0 0)) → Calls Try.prog 66 #[.pointer (some ⟨w.heap.size, 0, none⟩)] X fun e w' => CopyR w' X.heap.size s t o l e ∧ Below X.heap.size X w') := fun X hX => specCopy_any X w.heap.size s t o a cap l hl hX.2.1 (hi.keep hX.1)
  have HG : Hid (turnC s t o l a0 a1 a2 a3 a4 now = 0 → Good s t o l a0 a1 a2 a3 a4 now) := good_of
  have H1 : Hid (¬ turnC s t o l a0 a1 a2 a3 a4 now = 0 → noteR s t o l a0 a1 a2 a3 a4 now good = (turnC s t o l a0 a1 a2 a3 a4 now, ⟨0, 0, 0, []⟩)) := noteR_bad
  have H2 : Hid (turnC s t o l a0 a1 a2 a3 a4 now = 0 → noteR s t o l a0 a1 a2 a3 a4 now good = (0, noteV s t o l a0 a1 a2 now good)) := noteR_ok
  clear hi hW hl
  generalize noteR s t o l a0 a1 a2 a3 a4 now good = q at *
  generalize turnC s t o l a0 a1 a2 a3 a4 now = c at *
  obtain ⟨n, hn⟩ : ∃ n, l.length = n := ⟨_, rfl⟩
  have HN : Hid (l.length = n) := hn
  rw [hn] at HW K0 HC ⊢
  clear hn
  go_enter Try.func34, Try.ntmps34
  go_wp2_with fail
  rw [← HW.out]
  refine HA.out.mono ?_
  rintro e w1 ⟨rfl, hb1⟩
  have K1 : Hid ((Below w.heap.size w w1 ∧ S4 w1 w.heap.size (.int .i64 s) (.int .i64 t) (.int .i64 o) (.slice a n cap) ∧ S5 w1 (w.heap.size + 1) (.int .i64 a0) (.int .i64 a1) (.int .i64 a2) (.int .i64 a3) (.int .i64 a4) ∧ C5 w1 (w.heap.size + 2) (.int .i64 0) (.int .i64 0) (.int .i64 0) (.int .i64 0) (.slice none 0 0)) ∧ w.heap.size + 3 ≤ w1.heap.size) := ⟨⟨K0.out.1.1.trans (hb1.mono K0.out.1.1.size), K0.out.1.2.1.keep hb1, K0.out.1.2.2.1.keep hb1, K0.out.1.2.2.2.keep hb1⟩, by have := hb1.size; rw [K0.out.2] at this; exact this⟩
  clear hb1 K0 HW HA
  by_cases hc : c = 0
  rotate_left
  · have HE : Hid (q = (c, ⟨0, 0, 0, []⟩)) := H1.out hc
    have n0 : (c != 0) = true := by simpa using hc
    obtain ⟨r0, r1, r2, r3, r4, rf, _⟩ := K1.out.1.2.2.2
    clear H1 H2 HG HC
    go_wp2_with fail
    exact bodyPost_ret (v := .agg #[.int .i64 c, .int .i64 0, .int .i64 0, .int .i64 0, .slice none 0 0]) (by simp [results, Try.results34, go_sem, r0, r1, r2, r3, r4]) rfl ⟨NoteRes.mk HE.out rfl (MkNew.nil _ _ _ _), ((((K1.out.1.1.setCell (by simp <;> omega) _).setCell (by simp <;> omega) _).setCell (by simp <;> omega) _).setCell (by simp <;> omega) _).setCell (by simp <;> omega) _⟩
  subst hc
  have HE : Hid (q = (0, noteV s t o l a0 a1 a2 now good)) := H2.out (by trivial)
  have HG2 : Hid (Good s t o l a0 a1 a2 a3 a4 now) := HG.out (by trivial)
  clear H1 H2 HG
  go_wp2_with fail
  refine (HC.out _ K1.out.1).mono ?_
  rintro e w2 ⟨⟨va, vc, rfl, mv⟩, hb2⟩
  rw [HN.out] at mv ⊢
  obtain ⟨V, hV⟩ : ∃ V, V = w2.alloc (.cells #[.int .i64 s, .int .i64 t, .int .i64 o, .slice va n vc] 51) := ⟨_, rfl⟩
  have HV : Hid (V = w2.alloc (.cells #[.int .i64 s, .int .i64 t, .int .i64 o, .slice va n vc] 51)) := hV
  have aV : Below w2.heap.size w2 V := by rw [hV]; exact (Below.refl _ _).alloc (Nat.le_refl _) _
  have b2 := hb2.trans (aV.mono hb2.size)
  have hup := K1.out.2
  obtain ⟨nv, hnv⟩ : ∃ nv, noteV s t o l a0 a1 a2 now good = nv := ⟨_, rfl⟩
  have HL : Hid (Calls Try.prog 74 #[.pointer (some ⟨w2.heap.size, 0, none⟩), .pointer (some ⟨w.heap.size + 1, 0, none⟩), .int .i64 now, .bool good] V fun e w' => e = .returned (.tuple #[]) ∧ NoteT w' V.heap.size w2.heap.size nv ∧ V.grownBy w' (some w2.heap.size)) := by
    rw [← hnv]
    refine specTurn_any V w2.heap.size (w.heap.size + 1) (by have := hb2.size; omega) s t o va vc l a0 a1 a2 a3 a4 now good HG2.out (by rw [hV, HN.out]; exact S4.new w2 _ _ _ _ _) (K1.out.1.2.2.1.keep b2) ?_
    obtain ⟨x, y, e, hin⟩ := (mv.keep aV).in
    simp only [Value.slice.injEq] at e
    rw [e.1]; exact hin
  have HK2 : Hid (∀ X, V.grownBy X (some w2.heap.size) → Below w.heap.size w X ∧ C5 X (w.heap.size + 2) (.int .i64 0) (.int .i64 0) (.int .i64 0) (.int .i64 0) (.slice none 0 0)) := fun X hX => by
    have b3 : Below w2.heap.size w2 X := aV.trans (gbTo hX (Nat.le_refl _) aV.size)
    have b4 := hb2.trans (b3.mono hb2.size)
    exact ⟨K1.out.1.1.trans (b4.mono K1.out.1.1.size), K1.out.1.2.2.2.keep b4⟩
  have hX1 : w.heap.size + 3 ≤ V.heap.size := Nat.le_trans hup (Nat.le_trans hb2.size aV.size)
  rw [hnv] at HE
  clear hb2 K1 HC mv hV aV b2 HG2 hnv hup
  go_wp2_with fail
  rw [← HV.out]
  refine HL.out.mono ?_
  rintro e w3 ⟨rfl, ⟨xa, xc, hS, mN⟩, hgb⟩
  have K3 := hid12 (HK2.out w3 hgb)
  clear HV HL HK2 hgb
  generalize w2.heap.size = X0 at *
  generalize V.heap.size = X1 at *
  obtain ⟨ns, nt, no, nll⟩ := nv
  simp only at hS mN
  obtain ⟨m, hmm⟩ : ∃ m, nll.length = m := ⟨_, rfl⟩
  have HMM : Hid (nll.length = m) := hmm
  rw [hmm] at hS mN
  have HMN : Hid (MkNew w3 X1 (.slice xa m xc) nll) := mN
  clear hmm mN
  obtain ⟨e0, e1, e2, e3, ef, _⟩ := hS
  obtain ⟨r0, r1, r2, r3, r4, rf, _⟩ := K3.out.2
  have HM : Hid (∀ x0 x1 x2 x3 x4, MkNew (((((w3.setCell ⟨w.heap.size + 2, 0, none⟩ x0).setCell ⟨w.heap.size + 2, 1, none⟩ x1).setCell ⟨w.heap.size + 2, 2, none⟩ x2).setCell ⟨w.heap.size + 2, 3, none⟩ x3).setCell ⟨w.heap.size + 2, 4, none⟩ x4) w.heap.size (.slice xa m xc) nll) := fun x0 x1 x2 x3 x4 => by
    refine MkNew.lower ?_ (show w.heap.size ≤ X1 by omega)
    exact ((((HMN.out.gb2 (gbSet _ _ _ _) (by omega)).gb2 (gbSet _ _ _ _) (by omega)).gb2 (gbSet _ _ _ _) (by omega)).gb2 (gbSet _ _ _ _) (by omega)).gb2 (gbSet _ _ _ _) (by omega)
  go_wp2_with fail
  exact bodyPost_ret (v := .agg #[.int .i64 0, .int .i64 ns, .int .i64 nt, .int .i64 no, .slice xa m xc]) (by simp [results, Try.results34, go_sem, r0, r1, r2, r3, r4]) rfl ⟨NoteRes.mk HE.out HMM.out (HM.out _ _ _ _ _), ((((K3.out.1.setCell (by simp <;> omega) _).setCell (by simp <;> omega) _).setCell (by simp <;> omega) _).setCell (by simp <;> omega) _).setCell (by simp <;> omega) _⟩
end Go.Proofs.Ytmgidcigihpbeaa
