/-
  Plain: the text of known seconds is read back.
-/
import Derived.Test.YtibomkcbopkpkaaDoorDatePar
import Derived.Test.YtibomkcbopkpkaaDoorDateTwo
namespace Go.Proofs.YtibomkcbopkpkaaDoor
theorem three_bytes (t : ByteArray) (h : t.size = 3) : ∃ a b c, t = ⟨#[a, b, c]⟩ := by
  obtain ⟨⟨l⟩⟩ := t
  match l, h with
  | [a, b, c], _ => exact ⟨a, b, c, rfl⟩
theorem dg_digB {x : Int} (h0 : 0 ≤ x) (h1 : x < 10) : digB (dg x) = true := by
  have := dg_nat h0 h1
  simp [digB]
  omega
theorem accD_dg {n x : Int} (h0 : 0 ≤ x) (h1 : x < 10) (hn : 0 ≤ n) (hn1 : n ≤ 1000) : accD n (dg x) = n * 10 + x := by
  have := dg_nat h0 h1
  unfold accD
  rw [this, if_pos (by omega)]
  omega
theorem num2 {a b : Int} (a0 : 0 ≤ a) (a1 : a < 10) (b0 : 0 ≤ b) (b1 : b < 10) : numD (⟨#[dg a, dg b]⟩ : ByteArray) = a * 10 + b := by
  have ok : okD (⟨#[dg a, dg b]⟩ : ByteArray) = true := by
    refine okD_yes _ (by show 1 ≤ 2; omega) (by show 2 ≤ 64; omega) ?_
    simp [allD, dg_digB a0 a1, dg_digB b0 b1]
  rw [numD_yes _ ok]
  show List.foldl accD 0 [dg a, dg b] = _
  simp only [List.foldl_cons, List.foldl_nil]
  rw [accD_dg a0 a1 (by omega) (by omega), accD_dg b0 b1 (by omega) (by omega)]
  omega
theorem num4 {a b c d : Int} (a0 : 0 ≤ a) (a1 : a < 10) (b0 : 0 ≤ b) (b1 : b < 10) (c0 : 0 ≤ c) (c1 : c < 10) (d0 : 0 ≤ d) (d1 : d < 10) : numD (⟨#[dg a, dg b, dg c, dg d]⟩ : ByteArray) = ((a * 10 + b) * 10 + c) * 10 + d := by
  have ok : okD (⟨#[dg a, dg b, dg c, dg d]⟩ : ByteArray) = true := by
    refine okD_yes _ (by show 1 ≤ 4; omega) (by show 4 ≤ 64; omega) ?_
    simp [allD, dg_digB a0 a1, dg_digB b0 b1, dg_digB c0 c1, dg_digB d0 d1]
  rw [numD_yes _ ok]
  show List.foldl accD 0 [dg a, dg b, dg c, dg d] = _
  simp only [List.foldl_cons, List.foldl_nil]
  rw [accD_dg a0 a1 (by omega) (by omega), accD_dg b0 b1 (by omega) (by omega), accD_dg c0 c1 (by omega) (by omega), accD_dg d0 d1 (by omega) (by omega)]
  omega
theorem text_bytes {x y m d h i s : Int} (hx0 : 0 ≤ x) (hx1 : x < 7) (hm0 : 1 ≤ m) (hm1 : m ≤ 12) : ∃ w0 w1 w2 m0 m1 m2, moT m = ⟨#[m0, m1, m2]⟩ ∧
    dateText x y m d h i s = ⟨#[w0, w1, w2, 44, 32, dg (d / 10 % 10), dg (d % 10), 32, m0, m1, m2, 32, dg (y / 100 / 10 % 10), dg (y / 100 % 10), dg (y / 10 % 10), dg (y % 10), 32, dg (h / 10 % 10), dg (h % 10), 58, dg (i / 10 % 10), dg (i % 10), 58, dg (s / 10 % 10), dg (s % 10), 32, 71, 77, 84]⟩ := by
  obtain ⟨w0, w1, w2, e1⟩ := three_bytes _ (wdT_size hx0 hx1)
  obtain ⟨m0, m1, m2, e2⟩ := three_bytes _ (moT_size hm0 hm1)
  refine ⟨w0, w1, w2, m0, m1, m2, e2, ?_⟩
  unfold dateText two
  rw [e1, e2]
  rfl
theorem fmt_size {n : Int} (h0 : 0 ≤ n) (h1 : n ≤ 253402300799) : (fmtT n).size = 29 := by
  have k := date_ok h0 h1
  obtain ⟨w0, w1, w2, m0, m1, m2, _, e⟩ := text_bytes (x := (n / 86400 + 4) % 7) (y := dY n) (d := dD n) (h := dH n) (i := dI n) (s := dS n) (by omega) (by omega) k.day.m0 k.day.m1
  unfold fmtT
  rw [e]
  rfl
theorem fmt_back {n : Int} (h0 : 0 ≤ n) (h1 : n ≤ 253402300799) : Cand (fmtT n) (dM n) ∧ parS (fmtT n) (dM n) = n := by
  have k := date_ok h0 h1
  have ks := date_secs h0 h1
  have hd := (mlen_bd (dY n) (dM n)).2
  obtain ⟨w0, w1, w2, m0, m1, m2, em, e⟩ := text_bytes (x := (n / 86400 + 4) % 7) (y := dY n) (d := dD n) (h := dH n) (i := dI n) (s := dS n) (by omega) (by omega) k.day.m0 k.day.m1
  have e0 : fmtT n = _ := e
  obtain ⟨⟨hy0, hy1, hm0, hm1, hd0, hd1⟩, hh0, hh1, hi0, hi1, hs0, hs1⟩ := k
  have x1 : numD ((fmtT n).extract 12 16) = dY n := by
    rw [e0]
    show numD (⟨#[dg (dY n / 100 / 10 % 10), dg (dY n / 100 % 10), dg (dY n / 10 % 10), dg (dY n % 10)]⟩ : ByteArray) = _
    rw [num4 (by omega) (by omega) (by omega) (by omega) (by omega) (by omega) (by omega) (by omega)]
    omega
  have x2 : numD ((fmtT n).extract 5 7) = dD n := by
    rw [e0]
    show numD (⟨#[dg (dD n / 10 % 10), dg (dD n % 10)]⟩ : ByteArray) = _
    rw [num2 (by omega) (by omega) (by omega) (by omega)]
    omega
  have x3 : numD ((fmtT n).extract 17 19) = dH n := by
    rw [e0]
    show numD (⟨#[dg (dH n / 10 % 10), dg (dH n % 10)]⟩ : ByteArray) = _
    rw [num2 (by omega) (by omega) (by omega) (by omega)]
    omega
  have x4 : numD ((fmtT n).extract 20 22) = dI n := by
    rw [e0]
    show numD (⟨#[dg (dI n / 10 % 10), dg (dI n % 10)]⟩ : ByteArray) = _
    rw [num2 (by omega) (by omega) (by omega) (by omega)]
    omega
  have x5 : numD ((fmtT n).extract 23 25) = dS n := by
    rw [e0]
    show numD (⟨#[dg (dS n / 10 % 10), dg (dS n % 10)]⟩ : ByteArray) = _
    rw [num2 (by omega) (by omega) (by omega) (by omega)]
    omega
  have xm : moT (dM n) = (fmtT n).extract 8 11 := by
    rw [e0, em]
    rfl
  have xs : parS (fmtT n) (dM n) = n := by
    unfold parS
    rw [x1, x2, x3, x4, x5, ks]
  have xb : parB (fmtT n) (dM n) = true := by
    unfold parB
    rw [x1, x2, x3, x4, x5]
    exact dateB_of ⟨⟨hy0, hy1, hm0, hm1, hd0, hd1⟩, hh0, hh1, hi0, hi1, hs0, hs1⟩
  exact ⟨⟨hm0, hm1, xm, xb, by rw [xs]⟩, xs⟩
theorem fmt_parse {n : Int} (h0 : 0 ≤ n) (h1 : n ≤ 253402300799) : pdC (fmtT n) = 0 ∧ pdV (fmtT n) = n := by
  obtain ⟨hc, hs⟩ := fmt_back h0 h1
  have := pd_yes (fmt_size h0 h1) hc
  rw [hs] at this
  exact this
end Go.Proofs.YtibomkcbopkpkaaDoor
