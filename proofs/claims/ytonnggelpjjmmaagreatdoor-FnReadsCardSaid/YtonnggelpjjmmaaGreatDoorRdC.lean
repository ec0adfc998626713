/-
  Texts of one claim, one behind the other.
-/
import Derived.BigQuiet
import Derived.Deep.CutRange
import Derived.Deep.RegionHeld3
import Derived.Deep.RegionWith
import Derived.Laws.IdiomCopy
import Derived.Laws.OwnMore
import Derived.Laws.StructEq
import Derived.Lib.AppendIntMem
import Derived.Lib.ItoaLen
import Derived.Lib.ItoaNum
import Derived.Lib.LaidTab
import Derived.Lib.QuietBelow
import Derived.Lib.Split
import Derived.Lib.SplitLaws
import Derived.Shelf.SlicesE.Kit
import Derived.Shelf.Strconv.Itoa4
import Derived.Shelf.Strings.Cut
import Derived.Shelf.Strings.Prefix
import Derived.StillTail
import Derived.WalkSmall
import Derived.Test.YtonnggelpjjmmaaGreatDoorRdB
/-
  The draws of responses.
-/
namespace Go.Proofs.YtonnggelpjjmmaaGreatDoor
open Go.ChangeShapes Go.WideShapes Go.ChangeAt Go.RowKit
theorem BMine.off {w w' : World} {g : Nat} {l : List UInt8} (h : BMine w g l) (hz : w.heap.size ≤ w'.heap.size) (hc : ∀ o, w'.cell? ⟨g, o, none⟩ = w.cell? ⟨g, o, none⟩) (hf : ∀ o, w'.frozen? ⟨g, o, none⟩ = w.frozen? ⟨g, o, none⟩) : BMine w' g l :=
  ⟨fun i c hx => by rw [hc]; exact h.at0 i c hx, fun o ho => by rw [hf]; exact h.free o ho, Nat.lt_of_lt_of_le h.lt hz⟩
theorem BOwn.apart {B : Nat} {w w' : World} {base : Nat} {v : Value} {l : List UInt8} (h : BOwn w base v l) (ha : ApartH B w w') (hB : B < base) : BOwn w' base v l := by
  rcases h with h | ⟨g, k, e, hg, hm⟩
  · exact .inl h
  · exact .inr ⟨g, k, e, hg, hm.off ha.size (fun o => ha.cells.cell g o hm.lt (by omega)) (fun o => ha.cells.frozen g o hm.lt (by omega))⟩
theorem BOwn.putR {w : World} {base R o : Nat} {v x : Value} {l : List UInt8} (h : BOwn w base v l) (hne : v.ownBlock ≠ some R) : BOwn (w.setCell ⟨R, o, none⟩ x) base v l := by
  rcases h with h | ⟨g, k, e, hg, hm⟩
  · exact .inl h
  · have : g ≠ R := by
      rintro rfl
      rw [e] at hne
      exact hne rfl
    exact .inr ⟨g, k, e, hg, hm.off (by simp) (fun o' => World.cell?_setCell_other _ _ _ _ (by intro h; exact this (congrArg Addr.block h).symm)) (fun o' => World.frozen?_setCell _ _ _ _)⟩
theorem Three.apart {B : Nat} {W W' : World} {b : Nat} {v0 v1 v2 : Value} (k : Three W b v0 v1 v2) (ha : ApartH B W W') (hn : b ≠ B) : Three W' b v0 v1 v2 :=
  have hc := ha.cells
  ⟨by rw [hc.cell _ _ k.lt hn, k.c0], by rw [hc.cell _ _ k.lt hn, k.c1], by rw [hc.cell _ _ k.lt hn, k.c2], fun o => by rw [hc.frozen _ _ k.lt hn, k.fr], Nat.lt_of_lt_of_le k.lt ha.size⟩
theorem Three.keepB {W W' : World} {B base : Nat} {v0 v1 v2 : Value} (h : Three W B v0 v1 v2) (hB : B < base) (hb : Below base W W') : Three W' B v0 v1 v2 :=
  ⟨by rw [hb.cell (p := ⟨B, 0, none⟩) hB]; exact h.c0, by rw [hb.cell (p := ⟨B, 1, none⟩) hB]; exact h.c1, by rw [hb.cell (p := ⟨B, 2, none⟩) hB]; exact h.c2,
    fun o => by rw [hb.frozen (p := ⟨B, o, none⟩) hB]; exact h.fr o, Nat.lt_of_lt_of_le h.lt hb.size⟩
theorem Three.set0 {W : World} {B : Nat} {v0 v1 v2 : Value} (h : Three W B v0 v1 v2) (x : Value) : Three (W.setCell ⟨B, 0, none⟩ x) B x v1 v2 :=
  ⟨World.cell?_setCell_same _ _ _ h.c0, by rw [World.cell?_setCell_other _ _ _ _ (by intro e; have := congrArg Addr.off e; simp at this)]; exact h.c1, by rw [World.cell?_setCell_other _ _ _ _ (by intro e; have := congrArg Addr.off e; simp at this)]; exact h.c2, fun o => by rw [World.frozen?_setCell]; exact h.fr o, by simpa using h.lt⟩
theorem Three.set1 {W : World} {B : Nat} {v0 v1 v2 : Value} (h : Three W B v0 v1 v2) (x : Value) : Three (W.setCell ⟨B, 1, none⟩ x) B v0 x v2 :=
  ⟨by rw [World.cell?_setCell_other _ _ _ _ (by intro e; have := congrArg Addr.off e; simp at this)]; exact h.c0, World.cell?_setCell_same _ _ _ h.c1, by rw [World.cell?_setCell_other _ _ _ _ (by intro e; have := congrArg Addr.off e; simp at this)]; exact h.c2, fun o => by rw [World.frozen?_setCell]; exact h.fr o, by simpa using h.lt⟩
theorem Three.set2 {W : World} {B : Nat} {v0 v1 v2 : Value} (h : Three W B v0 v1 v2) (x : Value) : Three (W.setCell ⟨B, 2, none⟩ x) B v0 v1 x :=
  ⟨by rw [World.cell?_setCell_other _ _ _ _ (by intro e; have := congrArg Addr.off e; simp at this)]; exact h.c0, by rw [World.cell?_setCell_other _ _ _ _ (by intro e; have := congrArg Addr.off e; simp at this)]; exact h.c1, World.cell?_setCell_same _ _ _ h.c2, fun o => by rw [World.frozen?_setCell]; exact h.fr o, by simpa using h.lt⟩
/-- Drawn bytes of their own. -/
def SomeBody (base : Nat) (e : Ending) (w : World) : Prop := ∃ g k l, e = .returned (.slice (some ⟨g, 0, none⟩) (List.length l) k) ∧ base ≤ g ∧ BMine w g l ∧ l.length ≤ 1100
set_option maxRecDepth 100000 in
set_option maxHeartbeats 4000000 in
theorem l5Body_any (w : World) (B : Nat) (a : Option Addr) (len cap k : Nat) (hs : Src w B a len cap k) (hk : k ≤ 50000) (hl2 : len ≤ 1048576) :
    Calls Tryz.prog 111 #[.pointer (some ⟨B, 0, none⟩)] w fun e w' => SomeBody w.heap.size e w' ∧ Src w' B a len cap (k + 1) ∧ Below B w w' ∧ ApartH B w w' := by
  have H1 := l1Word_h w B a len cap k hs ([⟨#[111, 110, 101]⟩, ⟨#[116, 119, 111]⟩, ⟨#[]⟩, ⟨#[116, 104, 114, 101, 101, 32, 116, 104, 114, 101, 101]⟩, ⟨#[13, 10, 13, 10]⟩, ⟨#[120]⟩] : List ByteArray) 6 rfl (by omega) (by omega) (by omega) hl2
  simp only [List.map_cons, List.map_nil] at H1
  have hlt := hs.lt
  clear hs
  go_enter Tryz.func111, Tryz.ntmps111
  go_wp2_with fail
  refine H1.mono ?_
  rintro e w1 ⟨⟨t, ht, rfl⟩, hs1, hb1, ha1⟩
  have htz := smallH_of ht (by decide)
  obtain ⟨C, cc, hcv, hm⟩ := bytes_of_text w1 t
  obtain ⟨X, hX⟩ : ∃ X, X = w1.drew.alloc (.cells C 5 (C.size, C.size + 1)) := ⟨_, rfl⟩
  have bX : Below w1.heap.size w1 X := by rw [hX]; exact ((Below.refl _ _).drew).alloc (Nat.le_refl _) _
  rw [← hX] at hcv hm
  have K : Hid (BMine X w1.heap.size t.data.toList ∧ Src X B a len cap (k + 1) ∧ Below B w X ∧ ApartH B w X) := ⟨hm, hs1.below (bX.mono hs1.lt), hb1.trans (bX.mono (Nat.le_of_lt hs1.lt)), ha1.trans (.below bX)⟩
  have hz := ha1.size
  have HT : Hid (t.data.toList.length = t.size) := by show _ = _; simp
  clear hs1 hb1 ha1 bX hX hm ht H1
  go_wp2_with fail
  go_ret
  exact ⟨⟨_, cc, t.data.toList, by rw [HT.out]; rfl, hz, K.out.1, by rw [HT.out]; exact htz⟩, K.out.2⟩
/-- A drawn response. -/
def SomeResp (base n : Nat) (e : Ending) (w : World) : Prop := ∃ s va vc L g bc bl, e = .returned (.agg #[.int .i64 s, .slice va (List.length L) vc, .slice (some ⟨g, 0, none⟩) (List.length bl) bc]) ∧ OwnH w base (.slice va (List.length L) vc) L ∧ L.length ≤ n ∧ SmallH L ∧ base ≤ g ∧ BMine w g bl ∧ bl.length ≤ 2001
set_option maxRecDepth 100000 in
set_option maxHeartbeats 8000000 in
theorem l5DrawResponse_any (w : World) (B : Nat) (a : Option Addr) (len cap k : Nat) (hs : Src w B a len cap k) (hk : k ≤ 900) (hl2 : len ≤ 1048576) :
    Calls Tryz.prog 70 #[.pointer (some ⟨B, 0, none⟩)] w fun e w' => SomeResp (w.heap.size + 1) 5 e w' ∧ (∃ k', k' ≤ k + 103 ∧ Src w' B a len cap k') ∧ Below B w w' ∧ ApartH B w w' := by
  have hlt := hs.lt
  have HS : Hid (Src (w.alloc (.cells #[.int .i64 0, .slice none 0 0, .slice none 0 0] 32)) B a len cap k) := hs.alloc _
  have HB : Hid (Below B w (w.alloc (.cells #[.int .i64 0, .slice none 0 0, .slice none 0 0] 32))) := (Below.refl _ _).alloc (by omega) _
  have HA : Hid (ApartH B w (w.alloc (.cells #[.int .i64 0, .slice none 0 0, .slice none 0 0] 32))) := ApartH.alloc B w _
  have HR : Hid (Three (w.alloc (.cells #[.int .i64 0, .slice none 0 0, .slice none 0 0] 32)) w.heap.size (.int .i64 0) (.slice none 0 0) (.slice none 0 0)) := Three.new w _ _ _ _
  have hz : w.heap.size + 1 ≤ (w.alloc (.cells #[.int .i64 0, .slice none 0 0, .slice none 0 0] 32)).heap.size := by simp
  clear hs
  have H1 := l1Pick_h (w.alloc (.cells #[.int .i64 0, .slice none 0 0, .slice none 0 0] 32)) B a len cap k HS.out [200, 200, 200, 404, 410, 500, 503, 304, 301] 9 rfl (by omega) (by omega) (by omega) hl2
  have ez : (w.alloc (.cells #[.int .i64 0, .slice none 0 0, .slice none 0 0] 32)).heap.size = w.heap.size + 1 := by simp
  simp only [List.map_cons, List.map_nil, ez] at H1
  clear ez
  go_enter Tryz.func70, Tryz.ntmps70
  go_wp2_with fail
  refine H1.mono ?_
  rintro e w1 ⟨⟨s, _, rfl⟩, hs1, hb1, ha1⟩
  have HS1 : Hid (Src w1 B a len cap (k + 1)) := hs1
  have HB1 : Hid (Below B w w1) := HB.out.trans hb1
  have HA1 : Hid (ApartH B w w1) := HA.out.trans ha1
  have HR1 : Hid (Three w1 w.heap.size (.int .i64 0) (.slice none 0 0) (.slice none 0 0)) := HR.out.apart ha1 (by omega)
  have hz1 : w.heap.size + 1 ≤ w1.heap.size := Nat.le_trans hz ha1.size
  clear hs1 hb1 ha1 H1 HS HB HA HR hz
  have H2 := l1Pick_h w1 B a len cap (k + 1) HS1.out [0, 1, 2, 3] 4 rfl (by omega) (by omega) (by omega) hl2
  simp only [List.map_cons, List.map_nil] at H2
  go_wp2_with fail
  refine H2.mono ?_
  rintro e w2 ⟨⟨n2, hn2, rfl⟩, hs2, hb2, ha2⟩
  obtain ⟨j2, rfl, hj2⟩ : ∃ j : Nat, n2 = (j : Int) ∧ j ≤ 5 := ⟨n2.toNat, by simp at hn2; omega, by simp at hn2; omega⟩
  have HS2 : Hid (Src w2 B a len cap (k + 2)) := hs2
  have HB2 : Hid (Below B w w2) := HB1.out.trans hb2
  have HA2 : Hid (ApartH B w w2) := HA1.out.trans ha2
  have HR2 : Hid (Three w2 w.heap.size (.int .i64 0) (.slice none 0 0) (.slice none 0 0)) := HR1.out.apart ha2 (by omega)
  have hz2 : w.heap.size + 1 ≤ w2.heap.size := Nat.le_trans hz1 ha2.size
  clear hs2 hb2 ha2 H2 hn2 HS1 HB1 HA1 HR1 hz1
  go_wp2_with fail
  refine (l4Draw_any w2 B a len cap (k + 2) j2 hj2 HS2.out (by omega) hl2).mono ?_
  rintro e w5 ⟨⟨v5, L, rfl, ho5, hL5, hr5⟩, ⟨k5, hk5, hs5⟩, hb5, ha5⟩
  obtain ⟨va, vc, rfl⟩ := own_len ho5
  have HO5 : Hid (OwnH w5 (w.heap.size + 1) (.slice va L.length vc) L) := ho5.lower hz2
  have HL5 : Hid (SmallH L) := hr5
  have HS5 : Hid (Src w5 B a len cap k5) := hs5
  have HB5 : Hid (Below B w w5) := HB2.out.trans hb5
  have HA5 : Hid (ApartH B w w5) := HA2.out.trans ha5
  have HR5 : Hid (Three w5 w.heap.size (.int .i64 0) (.slice none 0 0) (.slice none 0 0)) := HR2.out.apart ha5 (by omega)
  have hz5 : w.heap.size + 1 ≤ w5.heap.size := Nat.le_trans hz2 ha5.size
  clear ho5 hr5 hs5 hb5 ha5 HS2 HB2 HA2 HR2 hz2
  generalize hLn : L.length = ln at *
  go_wp2_with fail
  refine (l5Body_any w5 B a len cap k5 HS5.out (by omega) hl2).mono ?_
  rintro e w6 ⟨⟨g, bc, bl, rfl, hg, hm, hbl⟩, hs6, hb6, ha6⟩
  have HO6 : Hid (OwnH w6 (w.heap.size + 1) (.slice va ln vc) L) := HO5.out.apart ha6 (by omega)
  have HM6 : Hid (BMine w6 g bl) := hm
  have HS6 : Hid (Src w6 B a len cap (k5 + 1)) := hs6
  have HB6 : Hid (Below B w w6) := HB5.out.trans hb6
  have HA6 : Hid (ApartH B w w6) := HA5.out.trans ha6
  have HR6 : Hid (Three w6 w.heap.size (.int .i64 0) (.slice none 0 0) (.slice none 0 0)) := HR5.out.apart ha6 (by omega)
  clear hm hs6 hb6 ha6 HO5 HS5 HB5 HA5 HR5
  generalize hBn : bl.length = bn at *
  have r0 := HR6.out.c0
  have r1 := HR6.out.c1
  have r2 := HR6.out.c2
  have rf0 := HR6.out.fr 0
  have rf1 := HR6.out.fr 1
  have rf2 := HR6.out.fr 2
  clear HR6
  have HBO : Hid (BOwn ((((w6.setCell ⟨w.heap.size, 0, none⟩ (.int .i64 s)).setCell ⟨w.heap.size, 1, none⟩ (.slice va ln vc)).setCell ⟨w.heap.size, 2, none⟩ (.slice (some ⟨g, 0, none⟩) bn bc))) (w.heap.size + 1) (.slice (some ⟨g, 0, none⟩) bn bc) bl) := by
    have h0 : BOwn w6 (w.heap.size + 1) (.slice (some ⟨g, 0, none⟩) bn bc) bl := .inr ⟨g, bc, by rw [hBn], by omega, HM6.out⟩
    have hne : (Value.slice (some ⟨g, 0, none⟩) bn bc).ownBlock ≠ some w.heap.size := by simp only [Value.ownBlock, ne_eq, Option.some.injEq]; omega
    exact ((h0.putR hne).putR hne).putR hne
  go_wp2_with fail
  refine bodyPost_ret (v := .agg #[.int .i64 s, .slice va ln vc, .slice (some ⟨g, 0, none⟩) bn bc]) ?_ rfl ⟨⟨s, va, vc, L, g, bc, bl, by rw [hLn, hBn], by rw [hLn]; exact ((HO6.out.put (by omega)).put (by omega)).put (by omega), by omega, HL5.out, by omega, ?_, by omega⟩, ⟨k5 + 1, by omega, HS6.out.below ((((Below.refl (B + 1) _).setCell (by simp; omega) _).setCell (by simp; omega) _).setCell (by simp; omega) _)⟩, ((HB6.out.setCell (by simp; omega) _).setCell (by simp; omega) _).setCell (by simp; omega) _, ((HA6.out.hfresh (Nat.le_refl _)).hfresh (Nat.le_refl _)).hfresh (Nat.le_refl _)⟩
  · simp [results, Tryz.results70, go_sem, r0, r1, r2]
  · rcases HBO.out with h | ⟨g', k', e, _, hm⟩
    · simp at h
    · simp only [Value.slice.injEq, Option.some.injEq, Addr.mk.injEq, and_true] at e
      obtain ⟨rfl, _, _⟩ := e
      exact hm
end Go.Proofs.YtonnggelpjjmmaaGreatDoor
/-
  The draws of requests and responses out of bytes.
-/
namespace Go.Proofs.YtonnggelpjjmmaaGreatDoor
open Go.ChangeShapes Go.WideShapes Go.ChangeAt Go.RowKit
set_option maxRecDepth 100000 in
set_option maxHeartbeats 4000000 in
theorem drawPackRequest_any (w : World) (a : Option Addr) (len cap : Nat) (hc : CodeRow w w.heap.size a len) (hl2 : len ≤ 1048576) :
    Calls Tryz.prog 7 #[.slice a len cap] w fun e w' => SomeReq w.heap.size 21 e w' ∧ Below w.heap.size w w' := by
  have al : Below w.heap.size w (w.alloc (.cells #[.string ⟨#[]⟩, .string ⟨#[]⟩, .string ⟨#[]⟩, .slice none 0 0] 26)) := (Below.refl _ _).alloc (Nat.le_refl _) _
  have ez : (w.alloc (.cells #[.string ⟨#[]⟩, .string ⟨#[]⟩, .string ⟨#[]⟩, .slice none 0 0] 26)).heap.size = w.heap.size + 1 := by simp
  have HZ0 : Hid (Four (w.alloc (.cells #[.string ⟨#[]⟩, .string ⟨#[]⟩, .string ⟨#[]⟩, .slice none 0 0] 26)) w.heap.size (.string ⟨#[]⟩) (.string ⟨#[]⟩) (.string ⟨#[]⟩) (.slice none 0 0)) := Four.new w _ _ _ _ _
  have H1 := l1Source_any (w.alloc (.cells #[.string ⟨#[]⟩, .string ⟨#[]⟩, .string ⟨#[]⟩, .slice none 0 0] 26)) a len cap ((hc.below al).mono al.size)
  rw [ez] at H1
  have HAL : Hid (Below w.heap.size w (w.alloc (.cells #[.string ⟨#[]⟩, .string ⟨#[]⟩, .string ⟨#[]⟩, .slice none 0 0] 26))) := al
  clear hc al ez
  go_enter Tryz.func7, Tryz.ntmps7
  go_wp2_with fail
  refine H1.mono ?_
  rintro e w1 ⟨rfl, hs1, hb1⟩
  have HS1 : Hid (Src w1 (w.heap.size + 1) a len cap 0) := hs1
  have HB1 : Hid (Below w.heap.size w w1) := HAL.out.trans (hb1.mono (Nat.le_succ _))
  have HZ1 : Hid (Four w1 w.heap.size (.string ⟨#[]⟩) (.string ⟨#[]⟩) (.string ⟨#[]⟩) (.slice none 0 0)) := HZ0.out.keepB (Nat.lt_succ_self _) hb1
  have hlt := hs1.lt
  clear hs1 hb1 HAL HZ0 H1
  have H4 := l5Bent_any w1 (w.heap.size + 1) a len cap 0 HS1.out (by omega) hl2
  go_wp2_with fail
  refine H4.mono ?_
  rintro e w5 ⟨⟨m, h, p, va, vc, M, rfl, hm, hh, hp, ho, hM, hsm⟩, _, hb5, ha5⟩
  have KB5 : Hid (Below w.heap.size w w5) := HB1.out.trans (hb5.mono (Nat.le_succ _))
  have KM : Hid (OwnH w5 (w.heap.size + 1) (.slice va M.length vc) M) := ho.lower (by omega)
  have KZ5 : Hid (Four w5 w.heap.size (.string ⟨#[]⟩) (.string ⟨#[]⟩) (.string ⟨#[]⟩) (.slice none 0 0)) := HZ1.out.keepB (Nat.lt_succ_self _) hb5
  have HSM : Hid (SmallH M) := hsm
  clear hb5 ha5 ho H4 HB1 HZ1 HS1 hsm
  generalize hMn : M.length = mn at *
  have r0 := KZ5.out.c0
  have r1 := KZ5.out.c1
  have r2 := KZ5.out.c2
  have r3 := KZ5.out.c3
  have rf0 := KZ5.out.fr 0
  have rf1 := KZ5.out.fr 1
  have rf2 := KZ5.out.fr 2
  have rf3 := KZ5.out.fr 3
  clear KZ5
  go_wp2_with fail
  refine bodyPost_ret (v := .agg #[.string m, .string h, .string p, .slice va mn vc]) ?_ rfl ⟨⟨m, h, p, va, vc, M, by rw [hMn], hm, hh, hp, by rw [hMn]; exact ((((KM.out.put (by omega)).put (by omega)).put (by omega)).put (by omega)).lower (by omega), by omega, HSM.out⟩, (((KB5.out.setCell (by simp) _).setCell (by simp) _).setCell (by simp) _).setCell (by simp) _⟩
  simp [results, Tryz.results7, go_sem, r0, r1, r2, r3]
/-- What stands while a response is bent: Z the result's block, B the source, R the response. -/
structure BP (w : World) (a : Option Addr) (len cap k R : Nat) (s : Int) (va : Option Addr) (n vc : Nat) (L : List Hdr) (g bn bc : Nat) (bl : List UInt8) (X : World) : Prop where
  sr : Src X (w.heap.size + 1) a len cap k
  b : Below w.heap.size w X
  z : Three X w.heap.size (.int .i64 0) (.slice none 0 0) (.slice none 0 0)
  r : Three X R (.int .i64 s) (.slice va n vc) (.slice (some ⟨g, 0, none⟩) bn bc)
  o : OwnH X (w.heap.size + 2) (.slice va n vc) L
  one : (Value.slice va n vc).ownBlock ≠ some R
  m : BOwn X (w.heap.size + 2) (.slice (some ⟨g, 0, none⟩) bn bc) bl
  gne : g ≠ R
  e : n = L.length
  f : bn = bl.length
  gt : w.heap.size + 1 < R
section
variable {w : World} {a : Option Addr} {len cap k R : Nat} {s : Int} {va : Option Addr} {n vc : Nat} {L : List Hdr} {g bn bc : Nat} {bl : List UInt8} {X : World}
theorem BP.next (q : BP w a len cap k R s va n vc L g bn bc bl X) {k' : Nat} {X' : World} (hs : Src X' (w.heap.size + 1) a len cap k') (hb : Below (w.heap.size + 1) X X') (ha : ApartH (w.heap.size + 1) X X') : BP w a len cap k' R s va n vc L g bn bc bl X' :=
  ⟨hs, q.b.trans (hb.mono (Nat.le_succ _)), q.z.apart ha (by omega), q.r.apart ha (by have := q.gt; omega), q.o.apart ha (by omega), q.one, q.m.apart ha (by omega), q.gne, q.e, q.f, q.gt⟩
theorem BP.src (q : BP w a len cap k R s va n vc L g bn bc bl X) (i : Nat) (x : Value) : Src (X.setCell ⟨R, i, none⟩ x) (w.heap.size + 1) a len cap k :=
  q.sr.below ((Below.refl (w.heap.size + 1 + 1) _).setCell (by have := q.gt; show w.heap.size + 1 + 1 ≤ R; omega) _)
theorem BP.bel (q : BP w a len cap k R s va n vc L g bn bc bl X) (i : Nat) (x : Value) : Below w.heap.size w (X.setCell ⟨R, i, none⟩ x) :=
  q.b.setCell (by have := q.gt; show w.heap.size ≤ R; omega) _
theorem BP.res (q : BP w a len cap k R s va n vc L g bn bc bl X) (i : Nat) (x : Value) : Three (X.setCell ⟨R, i, none⟩ x) w.heap.size (.int .i64 0) (.slice none 0 0) (.slice none 0 0) :=
  q.z.keepB (Nat.lt_succ_self _) ((Below.refl (w.heap.size + 1) _).setCell (by have := q.gt; show w.heap.size + 1 ≤ R; omega) _)
theorem BP.own (q : BP w a len cap k R s va n vc L g bn bc bl X) : (Value.slice (some ⟨g, 0, none⟩) bn bc).ownBlock ≠ some R := by
  have := q.gne
  simpa [Value.ownBlock] using this
theorem BP.set0 (q : BP w a len cap k R s va n vc L g bn bc bl X) (x : Int) : BP w a len cap k R x va n vc L g bn bc bl (X.setCell ⟨R, 0, none⟩ (.int .i64 x)) :=
  ⟨q.src _ _, q.bel _ _, q.res _ _, q.r.set0 _, q.o.putR q.one, q.one, q.m.putR q.own, q.gne, q.e, q.f, q.gt⟩
theorem BP.set1 (q : BP w a len cap k R s va n vc L g bn bc bl X) {ua : Option Addr} {u uc : Nat} {M : List Hdr} (ho : OwnH X (w.heap.size + 2) (.slice ua u uc) M) (hne : (Value.slice ua u uc).ownBlock ≠ some R) (hu : u = M.length) : BP w a len cap k R s ua u uc M g bn bc bl (X.setCell ⟨R, 1, none⟩ (.slice ua u uc)) :=
  ⟨q.src _ _, q.bel _ _, q.res _ _, q.r.set1 _, ho.putR hne, hne, q.m.putR q.own, q.gne, hu, q.f, q.gt⟩
theorem BP.set2 (q : BP w a len cap k R s va n vc L g bn bc bl X) {h u uc : Nat} {ul : List UInt8} (hm : BOwn X (w.heap.size + 2) (.slice (some ⟨h, 0, none⟩) u uc) ul) (hne : h ≠ R) (hu : u = ul.length) : BP w a len cap k R s va n vc L h u uc ul (X.setCell ⟨R, 2, none⟩ (.slice (some ⟨h, 0, none⟩) u uc)) :=
  ⟨q.src _ _, q.bel _ _, q.res _ _, q.r.set2 _, q.o.putR q.one, q.one, hm.putR (by simpa [Value.ownBlock] using hne), hne, q.e, hu, q.gt⟩
theorem BP.done (q : BP w a len cap k R s va n vc L g bn bc bl X) (hL : L.length ≤ 21) (hs : SmallH L) (hb : bl.length ≤ 2001) :
    SomeResp w.heap.size 21 (.returned (.agg #[.int .i64 s, .slice va n vc, .slice (some ⟨g, 0, none⟩) bn bc])) (((X.setCell ⟨w.heap.size, 0, none⟩ (.int .i64 s)).setCell ⟨w.heap.size, 1, none⟩ (.slice va n vc)).setCell ⟨w.heap.size, 2, none⟩ (.slice (some ⟨g, 0, none⟩) bn bc)) ∧ Below w.heap.size w (((X.setCell ⟨w.heap.size, 0, none⟩ (.int .i64 s)).setCell ⟨w.heap.size, 1, none⟩ (.slice va n vc)).setCell ⟨w.heap.size, 2, none⟩ (.slice (some ⟨g, 0, none⟩) bn bc)) := by
  obtain rfl := q.e
  obtain rfl := q.f
  have hg : w.heap.size + 2 ≤ g := by
    rcases q.m with h | ⟨g', k', e, hg, _⟩
    · simp at h
    · simp only [Value.slice.injEq, Option.some.injEq, Addr.mk.injEq, and_true] at e
      omega
  have hne : (Value.slice (some ⟨g, 0, none⟩) bl.length bc).ownBlock ≠ some w.heap.size := by simp only [Value.ownBlock, ne_eq, Option.some.injEq]; omega
  have hm := ((q.m.putR (o := 0) (x := .int .i64 s) hne).putR (o := 1) (x := .slice va L.length vc) hne).putR (o := 2) (x := .slice (some ⟨g, 0, none⟩) bl.length bc) hne
  refine ⟨⟨s, va, vc, L, g, bc, bl, rfl, (((q.o.put (by omega)).put (by omega)).put (by omega)).lower (by omega), hL, hs, by omega, ?_, hb⟩, ((q.b.setCell (by simp) _).setCell (by simp) _).setCell (by simp) _⟩
  rcases hm with h | ⟨g', k', e, _, hm⟩
  · simp at h
  · simp only [Value.slice.injEq, Option.some.injEq, Addr.mk.injEq, and_true] at e
    obtain ⟨rfl, _, _⟩ := e
    exact hm
end
theorem infoByte : (Tryz.prog.info? 5).map (fun i => (i.zero, i.size, i.bytes)) = some (some (.int .u8 0), 1, 1) := by kernel_rfl
theorem zeros_own {w w' : World} {base n : Nat} (h : w'.ownsRow base 5 1 (.slice (some ⟨w.heap.size, 0, none⟩) n n) n (madeCells (Value.int .u8 0).cells (n * 1)).toList) (hb : base ≤ w.heap.size) : BOwn w' base (.slice (some ⟨w.heap.size, 0, none⟩) n n) (List.replicate n 0) := by
  refine .inr ⟨w.heap.size, n, by simp, hb, fun i c hc => ?_, fun o _ => h.frozenAt o, ?_⟩
  · obtain ⟨hi, rfl⟩ := List.getElem?_eq_some_iff.1 hc
    simp only [List.length_replicate] at hi
    have h1 := h.cellAt i (by omega)
    have h2 : (madeCells (Value.int .u8 0).cells (n * 1)).toList[i]? = some (.int .u8 0) := by
      simp [madeCells, Value.cells, hi, Nat.mod_one]
    rw [Nat.zero_add, h1, h2]
    simp
  · obtain ⟨_, h | ⟨g, c, cur, e, _, hh, _⟩⟩ := h
    · cases h.1
    · simp only [Value.slice.injEq, Option.some.injEq] at e
      have e1 := congrArg Addr.block e.1
      simp only at e1
      rw [e1]
      exact (Array.getElem?_eq_some_iff.1 hh).1
set_option maxRecDepth 100000 in
set_option maxHeartbeats 16000000 in
theorem drawRespFault_any (w : World) (a : Option Addr) (len cap : Nat) (hc : CodeRow w w.heap.size a len) (hl2 : len ≤ 1048576) :
    Calls Tryz.prog 32 #[.slice a len cap] w fun e w' => SomeResp w.heap.size 21 e w' ∧ Below w.heap.size w w' := by
  have al : Below w.heap.size w (w.alloc (.cells #[.int .i64 0, .slice none 0 0, .slice none 0 0] 32)) := (Below.refl _ _).alloc (Nat.le_refl _) _
  have ez : (w.alloc (.cells #[.int .i64 0, .slice none 0 0, .slice none 0 0] 32)).heap.size = w.heap.size + 1 := by simp
  have HZ0 : Hid (Three (w.alloc (.cells #[.int .i64 0, .slice none 0 0, .slice none 0 0] 32)) w.heap.size (.int .i64 0) (.slice none 0 0) (.slice none 0 0)) := Three.new w _ _ _ _
  have H1 := l1Source_any (w.alloc (.cells #[.int .i64 0, .slice none 0 0, .slice none 0 0] 32)) a len cap ((hc.below al).mono al.size)
  rw [ez] at H1
  have HAL : Hid (Below w.heap.size w (w.alloc (.cells #[.int .i64 0, .slice none 0 0, .slice none 0 0] 32))) := al
  clear hc al ez
  go_enter Tryz.func32, Tryz.ntmps32
  go_wp2_with fail
  refine H1.mono ?_
  rintro e w1 ⟨rfl, hs1, hb1⟩
  have HS1 : Hid (Src w1 (w.heap.size + 1) a len cap 0) := hs1
  have HB1 : Hid (Below w.heap.size w w1) := HAL.out.trans (hb1.mono (Nat.le_succ _))
  have HZ1 : Hid (Three w1 w.heap.size (.int .i64 0) (.slice none 0 0) (.slice none 0 0)) := HZ0.out.keepB (Nat.lt_succ_self _) hb1
  have hlt := hs1.lt
  clear hs1 hb1 HAL HZ0 H1
  have H4 := l5DrawResponse_any w1 (w.heap.size + 1) a len cap 0 HS1.out (by omega) hl2
  go_wp2_with fail
  refine H4.mono ?_
  rintro e w2 ⟨⟨s, va, vc, L, g, bc, bl, rfl, ho, hL, hsm, hg, hm, hbl⟩, ⟨k2, hk2, hs2⟩, hb2, ha2⟩
  obtain ⟨n, hn⟩ : ∃ n, Hid (n = L.length) := ⟨_, rfl⟩
  obtain ⟨bn, hbn⟩ : ∃ n, Hid (n = bl.length) := ⟨_, rfl⟩
  rw [← hn.out] at ho ⊢
  rw [← hbn.out]
  have HL : Hid (SmallH L) := hsm
  have al2 : Below w2.heap.size w2 (w2.alloc (.cells #[.int .i64 s, .slice va n vc, .slice (some ⟨g, 0, none⟩) bn bc] 32)) := (Below.refl _ _).alloc (Nat.le_refl _) _
  obtain ⟨v2, hv2⟩ : ∃ X, Hid (X = w2.alloc (.cells #[.int .i64 s, .slice va n vc, .slice (some ⟨g, 0, none⟩) bn bc] 32)) := ⟨_, rfl⟩
  have Q1 : Hid (BP w a len cap k2 w2.heap.size s va n vc L g bn bc bl v2) := by
    rw [hv2.out]
    have hlt2 := hs2.lt
    refine ⟨hs2.alloc _, (HB1.out.trans (hb2.mono (Nat.le_succ _))).trans (al2.mono (by omega)), (HZ1.out.keepB (Nat.lt_succ_self _) hb2).keep al2, Three.new w2 _ _ _ _, (ho.below al2).lower (by omega), ?_, .inr ⟨g, bc, by rw [hbn.out], by omega, hm.keep al2⟩, by have := hm.lt; omega, hn.out, hbn.out, by omega⟩
    intro e
    obtain ⟨_, h1 | ⟨g1, c1, cur1, e1, _, hh, _⟩⟩ := ho
    · rw [h1.1] at e; cases e
    · rw [e1] at e
      simp only [Value.ownBlock, Option.some.injEq] at e
      have := (Array.getElem?_eq_some_iff.1 hh).1
      omega
  clear ho hm hs2 hb2 ha2 hsm H4 HS1 HB1 HZ1 al2
  go_upto_region 3 with fail
  rw [← hv2.out]
  clear hv2
  generalize w2.heap.size = R at *
  clear w2
  have H5 := l1Next_h v2 (w.heap.size + 1) a len cap k2 10 Q1.out.sr (by omega) (by omega) (by omega) hl2
  go_wp2_with fail
  refine H5.mono ?_
  rintro e w3 ⟨⟨x, hx0, hx1, rfl⟩, hs3, hb3, ha3⟩
  have Q2 : Hid (BP w a len cap (k2 + 1) R s va n vc L g bn bc bl w3) := Q1.out.next hs3 hb3 ha3
  clear hs3 hb3 ha3 H5 Q1
  clear v2
  have hxs : x = 0 ∨ x = 1 ∨ x = 2 ∨ 3 ≤ x := by omega
  rcases hxs with rfl | rfl | rfl | hx3
  · have H6 := l1Pick_h w3 (w.heap.size + 1) a len cap (k2 + 1) Q2.out.sr [199, 600, 599, -1] 4 rfl (by omega) (by omega) (by omega) hl2
    simp only [List.map_cons, List.map_nil] at H6
    go_wp2_with fail
    refine H6.mono ?_
    rintro e w4 ⟨⟨t, _, rfl⟩, hs4, hb4, ha4⟩
    have Q3 : Hid (BP w a len cap (k2 + 1 + 1) R s va n vc L g bn bc bl w4) := Q2.out.next hs4 hb4 ha4
    have y0 := Q3.out.r.c0
    have yf := Q3.out.r.fr 0
    have Q4 : Hid (BP w a len cap (k2 + 1 + 1) R t va n vc L g bn bc bl (w4.setCell ⟨R, 0, none⟩ (.int .i64 t))) := Q3.out.set0 t
    obtain ⟨w5, hw5⟩ : ∃ X, Hid (X = w4.setCell ⟨R, 0, none⟩ (.int .i64 t)) := ⟨_, rfl⟩
    rw [← hw5.out] at Q4
    clear hs4 hb4 ha4 H6 Q2 Q3
    go_upto_region 10 with fail
    rw [← hw5.out]
    clear hw5 y0 yf
    clear w4
    have z0 := Q4.out.z.c0
    have z1 := Q4.out.z.c1
    have z2 := Q4.out.z.c2
    have zf0 := Q4.out.z.fr 0
    have zf1 := Q4.out.z.fr 1
    have zf2 := Q4.out.z.fr 2
    have y0 := Q4.out.r.c0
    have y1 := Q4.out.r.c1
    have y2 := Q4.out.r.c2
    go_wp2_with fail
    refine bodyPost_ret (v := .agg #[.int .i64 t, .slice va n vc, .slice (some ⟨g, 0, none⟩) bn bc]) ?_ rfl (Q4.out.done (by omega) HL.out hbl)
    simp [results, Tryz.results32, go_sem, z0, z1, z2]
  · go_wp2_with fail
    refine (l4Bent_any w3 (w.heap.size + 1) a len cap (k2 + 1) Q2.out.sr (by omega) hl2).mono ?_
    rintro e w4 ⟨⟨v4, M, rfl, ho4, hM, hsm⟩, ⟨k4, hk4, hs4⟩, hb4, ha4⟩
    obtain ⟨ua, uc, rfl⟩ := own_len ho4
    have hrl := Q2.out.r.lt
    have hgt := Q2.out.gt
    have Q3 : Hid (BP w a len cap k4 R s va n vc L g bn bc bl w4) := Q2.out.next hs4 hb4 ha4
    have HM : Hid (SmallH M) := hsm
    have y1 := Q3.out.r.c1
    have yf := Q3.out.r.fr 1
    have Q4 : Hid (BP w a len cap k4 R s ua M.length uc M g bn bc bl (w4.setCell ⟨R, 1, none⟩ (.slice ua M.length uc))) := Q3.out.set1 (ho4.lower (by omega)) (fun e => by have := own_geH ho4 _ e; omega) rfl
    clear hs4 hb4 ha4 ho4 hsm Q2 Q3
    generalize hun : M.length = un at *
    obtain ⟨w5, hw5⟩ : ∃ X, Hid (X = w4.setCell ⟨R, 1, none⟩ (.slice ua un uc)) := ⟨_, rfl⟩
    rw [← hw5.out] at Q4
    go_upto_region 10 with fail
    rw [← hw5.out]
    clear hw5 y1 yf
    clear w4
    have z0 := Q4.out.z.c0
    have z1 := Q4.out.z.c1
    have z2 := Q4.out.z.c2
    have zf0 := Q4.out.z.fr 0
    have zf1 := Q4.out.z.fr 1
    have zf2 := Q4.out.z.fr 2
    have y0 := Q4.out.r.c0
    have y1 := Q4.out.r.c1
    have y2 := Q4.out.r.c2
    go_wp2_with fail
    refine bodyPost_ret (v := .agg #[.int .i64 s, .slice ua un uc, .slice (some ⟨g, 0, none⟩) bn bc]) ?_ rfl (Q4.out.done (by omega) HM.out hbl)
    simp [results, Tryz.results32, go_sem, z0, z1, z2]
  · have H6 := l1Pick_h w3 (w.heap.size + 1) a len cap (k2 + 1) Q2.out.sr [2000, 2001] 2 rfl (by omega) (by omega) (by omega) hl2
    simp only [List.map_cons, List.map_nil] at H6
    go_wp2_with fail
    refine H6.mono ?_
    rintro e w4 ⟨⟨t, ht, rfl⟩, hs4, hb4, ha4⟩
    obtain ⟨tn, rfl, htn⟩ : ∃ j : Nat, t = (j : Int) ∧ j ≤ 2001 := ⟨t.toNat, by simp at ht; omega, by simp at ht; omega⟩
    have Q3 : Hid (BP w a len cap (k2 + 1 + 1) R s va n vc L g bn bc bl w4) := Q2.out.next hs4 hb4 ha4
    clear hs4 hb4 ha4 H6 Q2 ht
    obtain ⟨i0, hi0, hz0, hz1, hz2⟩ := info_parts infoByte
    have hrl := Q3.out.r.lt
    have hgt := Q3.out.gt
    go_upto_region 10 with (at_make; refine wpList_make_full w4 rfl _ _ 22 rfl (w.heap.size + 2) 5 i0 _ 1 Tryz.underlying22 hi0 hz0 hz1 _ _ _ _ tn rfl rfl rfl rfl (by rw [hz2]; omega) (by unfold maxLen; omega) (by omega) ?_; intro w5 hown hgrow; have bo := zeros_own hown (by omega); have b5 : Below w4.heap.size w4 w5 := (Below.refl _ _).grown hgrow (Nat.le_refl _) (fun q hq => by cases hq); have Q4 : Hid (BP w a len cap (k2 + 1 + 1) R s va n vc L g bn bc bl w5) := (Q3.out.next (Q3.out.sr.below (b5.mono (by omega))) (b5.mono (by omega)) (.below b5)); have Q5 : Hid (BP w a len cap (k2 + 1 + 1) R s va n vc L w4.heap.size tn tn (List.replicate tn 0) (w5.setCell ⟨R, 2, none⟩ (.slice (some ⟨w4.heap.size, 0, none⟩) tn tn))) := (Q4.out.set2 bo (by omega) (by simp)); have y2 := Q4.out.r.c2; have yf := Q4.out.r.fr 2; clear hown hgrow bo b5 Q4)
    obtain ⟨w6, hw6⟩ : ∃ X, Hid (X = w5.setCell ⟨R, 2, none⟩ (.slice (some ⟨w4.heap.size, 0, none⟩) tn tn)) := ⟨_, rfl⟩
    rw [← hw6.out] at Q5
    rw [← hw6.out]
    clear hw6 y2 yf Q3
    generalize w4.heap.size = h4 at *
    try clear w5
    have z0 := Q5.out.z.c0
    have z1 := Q5.out.z.c1
    have z2 := Q5.out.z.c2
    have zf0 := Q5.out.z.fr 0
    have zf1 := Q5.out.z.fr 1
    have zf2 := Q5.out.z.fr 2
    have y0 := Q5.out.r.c0
    have y1 := Q5.out.r.c1
    have y2 := Q5.out.r.c2
    go_wp2_with fail
    refine bodyPost_ret (v := .agg #[.int .i64 s, .slice va n vc, .slice (some ⟨h4, 0, none⟩) tn tn]) ?_ rfl (Q5.out.done (by omega) HL.out (by simp; omega))
    simp [results, Tryz.results32, go_sem, z0, z1, z2]
  · have n0 : ¬ x = 0 := by omega
    have n1 : ¬ x = 1 := by omega
    have n2 : ¬ x = 2 := by omega
    have z0 := Q2.out.z.c0
    have z1 := Q2.out.z.c1
    have z2 := Q2.out.z.c2
    have zf0 := Q2.out.z.fr 0
    have zf1 := Q2.out.z.fr 1
    have zf2 := Q2.out.z.fr 2
    have y0 := Q2.out.r.c0
    have y1 := Q2.out.r.c1
    have y2 := Q2.out.r.c2
    go_wp2_with fail
    refine bodyPost_ret (v := .agg #[.int .i64 s, .slice va n vc, .slice (some ⟨g, 0, none⟩) bn bc]) ?_ rfl (Q2.out.done (by omega) HL.out hbl)
    simp [results, Tryz.results32, go_sem, z0, z1, z2]
set_option maxRecDepth 100000 in
set_option maxHeartbeats 4000000 in
theorem drawPackResponse_any (w : World) (a : Option Addr) (len cap : Nat) (hc : CodeRow w w.heap.size a len) (hl2 : len ≤ 1048576) :
    Calls Tryz.prog 9 #[.slice a len cap] w fun e w' => SomeResp w.heap.size 21 e w' ∧ Below w.heap.size w w' := by
  have al : Below w.heap.size w (w.alloc (.cells #[.int .i64 0, .slice none 0 0, .slice none 0 0] 32)) := (Below.refl _ _).alloc (Nat.le_refl _) _
  have ez : (w.alloc (.cells #[.int .i64 0, .slice none 0 0, .slice none 0 0] 32)).heap.size = w.heap.size + 1 := by simp
  have HZ0 : Hid (Three (w.alloc (.cells #[.int .i64 0, .slice none 0 0, .slice none 0 0] 32)) w.heap.size (.int .i64 0) (.slice none 0 0) (.slice none 0 0)) := Three.new w _ _ _ _
  have H1 := drawRespFault_any (w.alloc (.cells #[.int .i64 0, .slice none 0 0, .slice none 0 0] 32)) a len cap ((hc.below al).mono al.size) hl2
  rw [ez] at H1
  have HAL : Hid (Below w.heap.size w (w.alloc (.cells #[.int .i64 0, .slice none 0 0, .slice none 0 0] 32))) := al
  clear hc al ez
  go_enter Tryz.func9, Tryz.ntmps9
  go_wp2_with fail
  refine H1.mono ?_
  rintro e w2 ⟨⟨s, va, vc, L, g, bc, bl, rfl, ho, hL, hsm, hg, hm, hbl⟩, hb2⟩
  obtain ⟨n, hn⟩ : ∃ n, Hid (n = L.length) := ⟨_, rfl⟩
  obtain ⟨bn, hbn⟩ : ∃ n, Hid (n = bl.length) := ⟨_, rfl⟩
  rw [← hn.out] at ho ⊢
  rw [← hbn.out]
  have HL : Hid (SmallH L) := hsm
  have HO : Hid (OwnH w2 (w.heap.size + 1) (.slice va n vc) L) := ho
  have HMB : Hid (BOwn w2 (w.heap.size + 1) (.slice (some ⟨g, 0, none⟩) bn bc) bl) := .inr ⟨g, bc, by rw [hbn.out], hg, hm⟩
  have HB2 : Hid (Below w.heap.size w w2) := HAL.out.trans (hb2.mono (Nat.le_succ _))
  have HZ2 : Hid (Three w2 w.heap.size (.int .i64 0) (.slice none 0 0) (.slice none 0 0)) := HZ0.out.keepB (Nat.lt_succ_self _) hb2
  clear ho hm hb2 hsm H1 HAL HZ0
  have z0 := HZ2.out.c0
  have z1 := HZ2.out.c1
  have z2 := HZ2.out.c2
  have zf0 := HZ2.out.fr 0
  have zf1 := HZ2.out.fr 1
  have zf2 := HZ2.out.fr 2
  have hne : (Value.slice (some ⟨g, 0, none⟩) bn bc).ownBlock ≠ some w.heap.size := by simp only [Value.ownBlock, ne_eq, Option.some.injEq]; omega
  have HM3 : Hid (BOwn (((w2.setCell ⟨w.heap.size, 0, none⟩ (.int .i64 s)).setCell ⟨w.heap.size, 1, none⟩ (.slice va n vc)).setCell ⟨w.heap.size, 2, none⟩ (.slice (some ⟨g, 0, none⟩) bn bc)) (w.heap.size + 1) (.slice (some ⟨g, 0, none⟩) bn bc) bl) := ((HMB.out.putR hne).putR hne).putR hne
  clear HMB hne
  go_wp2_with fail
  refine bodyPost_ret (v := .agg #[.int .i64 s, .slice va n vc, .slice (some ⟨g, 0, none⟩) bn bc]) ?_ rfl ⟨⟨s, va, vc, L, g, bc, bl, by rw [hn.out, hbn.out], by rw [← hn.out]; exact (((HO.out.put (by omega)).put (by omega)).put (by omega)).lower (by omega), hL, HL.out, by omega, ?_, hbl⟩, ((HB2.out.setCell (by simp) _).setCell (by simp) _).setCell (by simp) _⟩
  · simp [results, Tryz.results9, go_sem, z0, z1, z2]
  · rcases HM3.out with h | ⟨g', k', e, _, hm⟩
    · simp at h
    · simp only [Value.slice.injEq, Option.some.injEq, Addr.mk.injEq, and_true] at e
      obtain ⟨rfl, _, _⟩ := e
      exact hm
end Go.Proofs.YtonnggelpjjmmaaGreatDoor
/-
  What ResponseFault and its model answer.
-/
namespace Go.Proofs.YtonnggelpjjmmaaGreatDoor
open Go.ChangeShapes Go.WideShapes Go.ChangeAt Go.RowKit
set_option maxHeartbeats 400000 in
theorem rIn_any (s : Int) (w : World) (b : Bool) (hb : b = (decide (200 ≤ s) && decide (s ≤ 599))) :
    Calls Tryz.prog 40 #[.int .i64 s, .int .i64 200, .int .i64 599] w fun e w' => e = .returned (.bool b) ∧ w' = w := by
  have HE : Hid (b = (decide (200 ≤ s) && decide (s ≤ 599))) := hb
  clear hb
  by_cases c1 : (200 : Int) ≤ s
  · by_cases c2 : s ≤ 599
    · have HV : Hid (b = true) := by show _ = _; rw [HE.out]; simp [c1, c2]
      have d : decide (s ≤ 599) = true := by simpa using c2
      go_enter Tryz.func40, Tryz.ntmps40
      go_wp2
      go_ret
      exact ⟨ret_bool HV.out.symm, rfl⟩
    · have HV : Hid (b = false) := by show _ = _; rw [HE.out]; simp [c2]
      have d : decide (s ≤ 599) = false := by simpa using c2
      go_enter Tryz.func40, Tryz.ntmps40
      go_wp2
      go_ret
      exact ⟨ret_bool HV.out.symm, rfl⟩
  · have HV : Hid (b = false) := by show _ = _; rw [HE.out]; simp [c1]
    go_enter Tryz.func40, Tryz.ntmps40
    go_wp2
    go_ret
    exact ⟨ret_bool HV.out.symm, rfl⟩
set_option maxHeartbeats 4000000 in
theorem specResp_any (w : World) (s : Int) (a : Option Addr) (cap : Nat) (l : List Hdr) (bp : Option Addr) (bn bc : Nat) (hl : l.length ≤ 1048576) (hbn : bn ≤ 1048576) (hi : HdsIn w a l) :
    Calls Tryz.prog 13 #[.agg #[.int .i64 s, .slice a l.length cap, .slice bp bn bc]] w fun e w' => e = .returned (.int .i64 (respC s l bn)) ∧ Below w.heap.size w w' := by
  obtain ⟨W, hW⟩ : ∃ W, W = w.alloc (.cells #[.int .i64 s, .slice a l.length cap, .slice bp bn bc] 32) := ⟨_, rfl⟩
  have HW : Hid (W = w.alloc (.cells #[.int .i64 s, .slice a l.length cap, .slice bp bn bc] 32)) := hW
  have bW : Below w.heap.size w W := by rw [hW]; exact (Below.refl _ _).alloc (Nat.le_refl _) _
  have hlt : w.heap.size < W.heap.size := by rw [hW]; simp
  have hc1 : W.cell? ⟨w.heap.size, 1, none⟩ = some (.slice a l.length cap) := by rw [hW, World.cell?_alloc_mark]; rfl
  have hc2 : W.cell? ⟨w.heap.size, 2, none⟩ = some (.slice bp bn bc) := by rw [hW, World.cell?_alloc_mark]; rfl
  have HB : Hid (Below w.heap.size w W) := bW
  have CF := specHFault_any W a cap l hl (hi.keep bW)
  have CI := rIn_any s W _ rfl
  clear hW bW hi
  by_cases c0 : s < 200 ∨ 599 < s
  · have HE : Hid (respC s l bn = 3) := respC_range c0
    rw [show (decide (200 ≤ s) && decide (s ≤ 599)) = false from by simp; omega] at CI
    clear CF hc1 hc2 hlt c0
    generalize l.length = n at *
    go_enter Tryz.func13, Tryz.ntmps13
    go_wp2_with fail
    rw [← HW.out]
    refine CI.mono ?_
    rintro e w1 ⟨rfl, hw⟩
    obtain rfl := hw.symm
    clear CI HW hw
    go_wp2_with fail
    go_ret
    exact ⟨ret_int HE.out.symm, HB.out⟩
  rw [show (decide (200 ≤ s) && decide (s ≤ 599)) = true from by simp; omega] at CI
  have HE1 : Hid (headsC l ≠ 0 → respC s l bn = headsC l) := fun h => respC_heads c0 h
  have HE2 : Hid (headsC l = 0 → 2000 < bn → respC s l bn = 2) := fun h h2 => respC_many c0 h h2
  have HE3 : Hid (headsC l = 0 → ¬ 2000 < bn → respC s l bn = 0) := fun h h2 => respC_ok c0 h h2
  clear c0
  generalize respC s l bn = rc at *
  generalize headsC l = c at *
  generalize l.length = n at *
  go_enter Tryz.func13, Tryz.ntmps13
  go_wp2_with fail
  rw [← HW.out]
  refine CI.mono ?_
  rintro e w1 ⟨rfl, hw⟩
  obtain rfl := hw.symm
  clear CI HW hw
  go_wp2_with fail
  refine CF.mono ?_
  rintro e w2 ⟨rfl, hb2⟩
  have HB2 : Hid (Below w.heap.size w w2) := HB.out.trans (hb2.mono HB.out.size)
  have hc2' : w2.cell? ⟨w.heap.size, 2, none⟩ = some (.slice bp bn bc) := by rw [hb2.cell (p := ⟨w.heap.size, 2, none⟩) hlt]; exact hc2
  clear CF hb2 HB hc1 hc2 hlt
  by_cases c1 : c = 0
  · subst c1
    by_cases c2 : 2000 < bn
    · have HE : Hid (rc = 2) := HE2.out rfl c2
      have g : (2000 : Int) < bn := by omega
      clear HE1 HE2 HE3 c2
      go_wp2_with fail
      go_ret
      exact ⟨ret_int HE.out.symm, HB2.out⟩
    · have HE : Hid (rc = 0) := HE3.out rfl c2
      have g : ¬ (2000 : Int) < bn := by omega
      clear HE1 HE2 HE3 c2
      go_wp2_with fail
      go_ret
      exact ⟨ret_int HE.out.symm, HB2.out⟩
  · have HE : Hid (rc = c) := HE1.out c1
    clear HE1 HE2 HE3 hc2'
    go_wp2_with fail
    go_ret
    exact ⟨ret_int HE.out.symm, HB2.out⟩
set_option maxHeartbeats 4000000 in
theorem implRespE_any (E : Errs) (w : World) (s : Int) (a : Option Addr) (cap : Nat) (l : List Hdr) (bp : Option Addr) (bn bc : Nat) (hl : l.length ≤ 1048576) (hbn : bn ≤ 1048576) (hset : SetIs w) (hE : ErrsIs w E) (hi : HdsIn w a l) :
    Calls Tryz.prog 41 #[.agg #[.int .i64 s, .slice a l.length cap, .slice bp bn bc]] w fun e w' => e = .returned (errV E (respC s l bn)) ∧ Below w.heap.size w w' := by
  obtain ⟨W, hW⟩ : ∃ W, W = w.alloc (.cells #[.int .i64 s, .slice a l.length cap, .slice bp bn bc] 32) := ⟨_, rfl⟩
  have HW : Hid (W = w.alloc (.cells #[.int .i64 s, .slice a l.length cap, .slice bp bn bc] 32)) := hW
  have bW : Below w.heap.size w W := by rw [hW]; exact (Below.refl _ _).alloc (Nat.le_refl _) _
  have hlt : w.heap.size < W.heap.size := by rw [hW]; simp
  have hc2 : W.cell? ⟨w.heap.size, 2, none⟩ = some (.slice bp bn bc) := by rw [hW, World.cell?_alloc_mark]; rfl
  have HB : Hid (Below w.heap.size w W) := bW
  have CF := implHFault_any W a cap l hl (hset.below bW) (hi.keep bW)
  have HE0 : Hid (∀ X, Below w.heap.size w X → ErrsIs X E) := fun X hb => hE.below hb
  have HK := headsC_codes l
  have gB0 := (hE.below bW).gB
  rw [hW] at gB0
  clear hW bW hi hset hE
  by_cases c0 : s < 200 ∨ 599 < s
  · have HE : Hid (errV E (respC s l bn) = .iface 230 (.pointer (some E.b))) := by show _ = _; rw [respC_range c0]; rfl
    rw [HW.out] at HB
    clear CF hc2 hlt HE0 HK HW
    generalize l.length = n at *
    rcases c0 with c0 | c0
    · go_enter Tryz.func41, Tryz.ntmps41
      go_wp2_with fail
      go_ret
      exact ⟨congrArg Ending.returned HE.out.symm, HB.out⟩
    · have c1 : ¬ s < 200 := by omega
      go_enter Tryz.func41, Tryz.ntmps41
      go_wp2_with fail
      go_ret
      exact ⟨congrArg Ending.returned HE.out.symm, HB.out⟩
  have HE1 : Hid (headsC l ≠ 0 → respC s l bn = headsC l) := fun h => respC_heads c0 h
  have HE2 : Hid (headsC l = 0 → 2000 < bn → respC s l bn = 2) := fun h h2 => respC_many c0 h h2
  have HE3 : Hid (headsC l = 0 → ¬ 2000 < bn → respC s l bn = 0) := fun h h2 => respC_ok c0 h h2
  have g1 : ¬ s < 200 := by omega
  have g2 : ¬ 599 < s := by omega
  clear c0 gB0
  generalize respC s l bn = rc at *
  generalize headsC l = c at *
  generalize l.length = n at *
  go_enter Tryz.func41, Tryz.ntmps41
  go_wp2_with fail
  rw [← HW.out]
  refine CF.mono ?_
  rintro e w2 ⟨rfl, hb2⟩
  have HB2 : Hid (Below w.heap.size w w2) := HB.out.trans (hb2.mono HB.out.size)
  have hc2' : w2.cell? ⟨w.heap.size, 2, none⟩ = some (.slice bp bn bc) := by rw [hb2.cell (p := ⟨w.heap.size, 2, none⟩) hlt]; exact hc2
  clear CF hb2 HB hc2 hlt HW g1 g2
  have C4 := headError_any E c w2 (HE0.out _ HB2.out) HK
  by_cases c1 : c = 0
  · subst c1
    rw [errV0] at C4
    by_cases c2 : 2000 < bn
    · have HE : Hid (errV E rc = .iface 230 (.pointer (some E.m))) := by show _ = _; rw [HE2.out rfl c2]; rfl
      have g : (2000 : Int) < bn := by omega
      have gM := (HE0.out _ HB2.out).gM
      clear HE1 HE2 HE3 c2 HE0 HK
      go_wp2_with fail
      refine C4.mono ?_
      rintro e w4 ⟨rfl, hw⟩
      obtain rfl := hw.symm
      clear C4 hw
      go_wp2_with fail
      go_ret
      exact ⟨congrArg Ending.returned HE.out.symm, HB2.out⟩
    · have HE : Hid (errV E rc = .nilIface) := by show _ = _; rw [HE3.out rfl c2]; rfl
      have g : ¬ (2000 : Int) < bn := by omega
      clear HE1 HE2 HE3 c2 HE0 HK
      go_wp2_with fail
      refine C4.mono ?_
      rintro e w4 ⟨rfl, hw⟩
      obtain rfl := hw.symm
      clear C4 hw
      go_wp2_with fail
      go_ret
      exact ⟨congrArg Ending.returned HE.out.symm, HB2.out⟩
  · have HE : Hid (errV E rc = errV E c) := by show _ = _; rw [HE1.out c1]
    have hv : ∃ x, errV E c = .iface 230 (.pointer (some x)) := by
      rcases HK with e | e | e
      · exact absurd e c1
      · rw [e]; exact ⟨_, rfl⟩
      · rw [e]; exact ⟨_, rfl⟩
    obtain ⟨x, hx⟩ := hv
    rw [hx] at C4 HE
    clear HE1 HE2 HE3 HE0 HK hc2' hx c1
    go_wp2_with fail
    refine C4.mono ?_
    rintro e w4 ⟨rfl, hw⟩
    obtain rfl := hw.symm
    clear C4 hw
    go_wp2_with fail
    go_ret
    exact ⟨congrArg Ending.returned HE.out.symm, HB2.out⟩
set_option maxHeartbeats 1000000 in
theorem implResp_any (E : Errs) (w : World) (s : Int) (a : Option Addr) (cap : Nat) (l : List Hdr) (bp : Option Addr) (bn bc : Nat) (hl : l.length ≤ 1048576) (hbn : bn ≤ 1048576) (hset : SetIs w) (hE : ErrsIs w E) (hi : HdsIn w a l) :
    Calls Tryz.prog 14 #[.agg #[.int .i64 s, .slice a l.length cap, .slice bp bn bc]] w fun e w' => e = .returned (.int .i64 (respC s l bn)) ∧ Below w.heap.size w w' := by
  have bW : Below w.heap.size w (w.alloc (.cells #[.int .i64 s, .slice a l.length cap, .slice bp bn bc] 32)) := (Below.refl _ _).alloc (Nat.le_refl _) _
  have C1 := implRespE_any E _ s a cap l bp bn bc hl hbn (hset.below bW) (hE.below bW) (hi.keep bW)
  have HK := respC_codes s l bn
  have C2 : Hid (∀ X, ErrsIs X E → Calls Tryz.prog 38 #[errV E (respC s l bn)] X fun e w' => e = .returned (.int .i64 (respC s l bn)) ∧ w' = X) := fun X hX => codeOf_any E _ X hX (by omega)
  have HE0 : Hid (∀ X, Below w.heap.size w X → ErrsIs X E) := fun X hb => hE.below hb
  have HB : Hid (Below w.heap.size w (w.alloc (.cells #[.int .i64 s, .slice a l.length cap, .slice bp bn bc] 32))) := bW
  clear hi hset hE HK bW
  generalize respC s l bn = c at *
  generalize l.length = n at *
  generalize errV E c = ev at *
  go_enter Tryz.func14, Tryz.ntmps14
  go_wp2_with fail
  refine C1.mono ?_
  rintro e w1 ⟨rfl, hb1⟩
  have HB1 : Hid (Below w.heap.size w w1) := HB.out.trans (hb1.mono HB.out.size)
  have C3 := C2.out w1 (HE0.out _ HB1.out)
  clear hb1 HB C1 C2 HE0
  go_wp2_with fail
  refine C3.mono ?_
  rintro e w2 ⟨rfl, hw⟩
  obtain rfl := hw.symm
  clear hw C3
  go_wp2_with fail
  go_ret
  exact ⟨rfl, HB1.out⟩
end Go.Proofs.YtonnggelpjjmmaaGreatDoor
/-
  What the model's l1Digits answers: the decimal digits of a number.
-/
namespace Go.Proofs.YtonnggelpjjmmaaGreatDoor
open Go.ChangeShapes Go.WideShapes Go.ChangeAt Go.RowKit
namespace num
/-- One byte in a slice of its own, as a text. -/
theorem one_byte (c : Int) (x : UInt8) (hx : (x.toNat : Int) = c) (W : World) (B cap : Nat) (hc : W.cell? ⟨B, 0, none⟩ = some (.int .u8 c)) :
    (convert 22 9 (.slice (some ⟨B, 0, none⟩) 1 cap)).run Tryz.prog W = .ok (.string ⟨#[x]⟩) W := by
  have := run_convert_bytes_back (P := Tryz.prog) W 22 9 5 ⟨B, 0, none⟩ cap [x] Tryz.underlying22 Tryz.underlying5 Tryz.underlying9 (fun j hj => by
    obtain rfl : j = 0 := by simp at hj; omega
    simp [Addr.add, hc, hx])
  simpa using this
theorem dig_nat (d : Nat) (h : d < 10) : ((UInt8.ofNat (48 + d)).toNat : Int) = 48 + (d : Int) := by
  rw [UInt8.toNat_ofNat_of_lt' (by show 48 + d < 256; omega)]; omega
set_option maxHeartbeats 1000000 in
theorem l1Digits_one (u : Nat) (h : u < 10) (w : World) :
    Calls Tryz.prog 90 #[.int .i64 u] w fun e w' => e = .returned (.string ⟨(Lib.decDigits u).toArray⟩) ∧ Below w.heap.size w w' := by
  have HD : Hid ((⟨#[UInt8.ofNat (48 + u)]⟩ : ByteArray) = ⟨(Lib.decDigits u).toArray⟩) := by
    show _ = _
    rw [Lib.decDigits_one h]
  have hcv := one_byte (48 + (u : Int)) (UInt8.ofNat (48 + u)) (dig_nat u h)
  have g : (u : Int) < 10 := by omega
  generalize (⟨#[UInt8.ofNat (48 + u)]⟩ : ByteArray) = r at *
  go_enter Tryz.func90, Tryz.ntmps90
  go_wp2_with fail
  go_ret
  exact ⟨ret_str HD.out, (Below.refl _ _).alloc (Nat.le_refl _) _⟩
set_option maxHeartbeats 1000000 in
theorem l1Digits_any (k : Nat) : ∀ (u : Nat) (w : World), u < 10 ^ k → u ≤ 1000000000000000 →
    Calls Tryz.prog 90 #[.int .i64 u] w fun e w' => e = .returned (.string ⟨(Lib.decDigits u).toArray⟩) ∧ Below w.heap.size w w' := by
  induction k with
  | zero =>
    intro u w h _
    exact l1Digits_one u (by simp at h; omega) w
  | succ k ih =>
    intro u w h hb
    by_cases c : u < 10
    · exact l1Digits_one u c w
    · have IH : Hid (∀ w, Calls Tryz.prog 90 #[.int .i64 ((u : Int) / 10)] w fun e w' => e = .returned (.string ⟨(Lib.decDigits (u / 10)).toArray⟩) ∧ Below w.heap.size w w') := by
        intro w
        have := ih (u / 10) w (by rw [Nat.pow_succ] at h; omega) (by omega)
        rw [show (((u / 10 : Nat)) : Int) = (u : Int) / 10 from by omega] at this
        exact this
      have HD : Hid ((⟨(Lib.decDigits (u / 10)).toArray⟩ : ByteArray) ++ (⟨#[UInt8.ofNat (48 + u % 10)]⟩ : ByteArray) = ⟨(Lib.decDigits u).toArray⟩) := by
        show _ = _
        rw [show Lib.decDigits u = Lib.decDigits (u / 10) ++ [UInt8.ofNat (48 + u % 10)] from by rw [Lib.decDigits, dif_neg c]]
        apply ByteArray.ext
        simp
      have hcv := one_byte (48 + (u : Int) % 10) (UInt8.ofNat (48 + u % 10)) (by rw [dig_nat (u % 10) (by omega)]; omega)
      have g : ¬ (u : Int) < 10 := by omega
      have g2 : (u : Int) ≤ 1000000000000000 := by omega
      have e1 : IntKind.i64.wrap ((u : Int) / 10) = (u : Int) / 10 := by rw [IntKind.wrap_i64]; omega
      have e2 : IntKind.u8.wrap (IntKind.i64.wrap (48 + (u : Int).tmod 10)) = 48 + (u : Int) % 10 := by
        rw [Int.tmod_eq_emod_of_nonneg (by omega), IntKind.wrap_i64, IntKind.wrap_u8]; omega
      clear ih h c
      have zr : (⟨#[UInt8.ofNat (48 + u % 10)]⟩ : ByteArray).size ≤ 1 := Nat.le_refl _
      have zq : (⟨(Lib.decDigits (u / 10)).toArray⟩ : ByteArray).size ≤ 21 := by
        have := Lib.itoa_length_le ((u / 10 : Nat) : Int) (by omega) (by omega)
        rw [Lib.itoa_nonneg] at this
        simpa [ByteArray.size] using this
      generalize (⟨#[UInt8.ofNat (48 + u % 10)]⟩ : ByteArray) = r at *
      generalize (⟨(Lib.decDigits (u / 10)).toArray⟩ : ByteArray) = q at *
      have hadd := fun w => run_string_add_sum (P := Tryz.prog) (w := w) q r (by omega)
      go_enter Tryz.func90, Tryz.ntmps90
      go_wp2_with fail
      go_region_with (go_at_call 90; refine (IH.out _).mono ?_; rintro e w1 ⟨rfl, hb1⟩; obtain ⟨hc1, hf1⟩ := bcell hb1; have hz1 := hb1.size)
      all_goals (go_wp2_with fail; go_ret; refine ⟨ret_str HD.out, ?_⟩; clear IH HD hcv hadd)
      · exact ((Below.refl w.heap.size w).drew.trans hb1).alloc hz1 _
      · exact (((Below.refl w.heap.size w).alloc (Nat.le_refl _) _).drew).trans (hb1.mono (by simp))
      · exact (((Below.refl w.heap.size w).alloc (Nat.le_refl _) _).drew).trans (hb1.mono (by simp))
end num
end Go.Proofs.YtonnggelpjjmmaaGreatDoor
/-
  What NumberText and its model answer; the law of NumberText out of them.
-/
namespace Go.Proofs.YtonnggelpjjmmaaGreatDoor
open Go.ChangeShapes Go.WideShapes Go.ChangeAt Go.RowKit
namespace num
/-- The library's table of powers of ten lies in memory. -/
def PowIs (w : World) : Prop := Lib.TabIs Tryz.prog w "internal/strconv.uint64pow10" .u64 Lib.pow10Tab
theorem powNamed : Tryz.prog.globalNamed "internal/strconv.uint64pow10" = some 6 := by kernel_rfl
theorem PowIs.below {w w' : World} (h : PowIs w) (hb : Below w.heap.size w w') : PowIs w' := by
  unfold PowIs Lib.TabIs at h ⊢
  refine var?_below hb powNamed ?_ h
  unfold World.var? at h
  rw [powNamed] at h
  simp only [Option.bind_some] at h
  cases hh : w.heap[6]? with
  | none => rw [hh] at h; cases h
  | some o => exact (Array.getElem?_eq_some_iff.1 hh).1
def numT (n : Int) : ByteArray := ⟨(Lib.itoa n).toArray⟩
theorem format_lib (n : Int) (h0 : 0 ≤ n) (h1 : n ≤ 1000000000000000) (w : World) (h : PowIs w) :
    Calls Tryz.prog 72 #[.int .i64 n, .int .i64 10] w fun e w' => e = .returned (.string (numT n)) ∧ Below w.heap.size w w' := by
  refine (Any.strconv_FormatInt_10 Tryz.laysM173 n (by omega) (by omega) w h).mono ?_
  rintro e w' ⟨rfl, k, os, rfl⟩
  exact ⟨rfl, Lib.below_grow _ _ (Nat.le_refl _) _ _⟩
theorem l1Digits_all (n : Int) (h0 : 0 ≤ n) (h1 : n ≤ 1000000000000000) (w : World) :
    Calls Tryz.prog 90 #[.int .i64 n] w fun e w' => e = .returned (.string (numT n)) ∧ Below w.heap.size w w' := by
  obtain ⟨u, rfl⟩ := Int.eq_ofNat_of_zero_le h0
  have := l1Digits_any 16 u w (by omega) (by omega)
  unfold numT
  rw [Lib.itoa_nonneg]
  exact this
set_option maxHeartbeats 400000 in
theorem implNum_bad (n : Int) (w : World) (h : n < 0 ∨ 1000000000000000 < n) :
    Calls Tryz.prog 33 #[.int .i64 n] w fun e w' => e = .returned (.agg #[.int .i64 3, .string ⟨#[]⟩]) ∧ Below w.heap.size w w' := by
  rcases h with h | h
  · go_enter Tryz.func33, Tryz.ntmps33
    go_wp2
    exact bodyPost_ret (v := .agg #[.int .i64 3, .string ⟨#[]⟩]) (by simp [results, Tryz.results33, go_sem]) rfl ⟨rfl, (Below.refl _ _).alloc (Nat.le_refl _) _⟩
  · have h0 : 0 ≤ n := by omega
    have d : decide (n ≤ 1000000000000000) = false := by simp; omega
    go_enter Tryz.func33, Tryz.ntmps33
    go_wp2
    exact bodyPost_ret (v := .agg #[.int .i64 3, .string ⟨#[]⟩]) (by simp [results, Tryz.results33, go_sem]) rfl ⟨rfl, (Below.refl _ _).alloc (Nat.le_refl _) _⟩
set_option maxHeartbeats 400000 in
theorem implNum_any (n : Int) (w : World) (h0 : 0 ≤ n) (h1 : n ≤ 1000000000000000) (hp : PowIs w) :
    Calls Tryz.prog 33 #[.int .i64 n] w fun e w' => e = .returned (.agg #[.int .i64 0, .string (numT n)]) ∧ Below w.heap.size w w' := by
  have HP : Hid (PowIs (w.alloc (.cells #[.int .i64 0, .string ⟨#[]⟩] 50))) := hp.below ((Below.refl _ _).alloc (Nat.le_refl _) _)
  clear hp
  have d : decide (n ≤ 1000000000000000) = true := by simpa using h1
  go_enter Tryz.func33, Tryz.ntmps33
  go_wp2_with (go_at_call 71; go_in)
  refine (format_lib n h0 h1 _ HP.out).mono ?_
  rintro e w1 ⟨rfl, hb⟩
  simp only [World.size_alloc] at hb
  have hz := hb.size
  simp only [World.size_alloc] at hz
  have p0 : w1.cell? ⟨w.heap.size, 0, none⟩ = some (.int .i64 0) := by rw [hb.cell (p := ⟨w.heap.size, 0, none⟩) (Nat.lt_succ_self _)]; simp
  have p1 : w1.cell? ⟨w.heap.size, 1, none⟩ = some (.string ⟨#[]⟩) := by rw [hb.cell (p := ⟨w.heap.size, 1, none⟩) (Nat.lt_succ_self _)]; simp
  have f0 : w1.frozen? ⟨w.heap.size, 0, none⟩ = false := by rw [hb.frozen (p := ⟨w.heap.size, 0, none⟩) (Nat.lt_succ_self _)]; simp
  have f1 : w1.frozen? ⟨w.heap.size, 1, none⟩ = false := by rw [hb.frozen (p := ⟨w.heap.size, 1, none⟩) (Nat.lt_succ_self _)]; simp
  generalize hr : numT n = r
  have HL : Hid (r = numT n) := hr.symm
  clear hr
  obtain ⟨q0, q1⟩ := two_set (v0 := .int .i64 0) (v1 := .string r) p0 p1
  go_wp2
  have kb : Below w.heap.size w w1 := ((Below.refl _ _).alloc (Nat.le_refl _) _).trans (hb.mono (Nat.le_succ _))
  exact bodyPost_ret (v := .agg #[.int .i64 0, .string r]) (by simp [results, Tryz.results33, go_sem, q0, q1]) rfl ⟨by rw [HL.out], (kb.setCell (Nat.le_refl _) _).setCell (Nat.le_refl _) _⟩
end num
end Go.Proofs.YtonnggelpjjmmaaGreatDoor
/-
  Responses as bytes, plainly. No Go in sight.
-/
namespace Go.Proofs.YtonnggelpjjmmaaGreatDoor
open num (numT)
/-- A response: 'HTTP/1.1', a blank, the status, the lines, the body. -/
def respH (s : Int) (l : List Hdr) : List UInt8 := verL ++ [32] ++ (numT s).data.toList ++ [13, 10] ++ packL l ++ [13, 10]
def respL (s : Int) (l : List Hdr) (body : List UInt8) : List UInt8 := respH s l ++ body
def respB (s : Int) (l : List Hdr) (body : List UInt8) : List UInt8 := if respC s l body.length = 0 then respL s l body else []
end Go.Proofs.YtonnggelpjjmmaaGreatDoor
/-
  Bytes appended onto what a text was turned into.
-/
namespace Go.Proofs.YtonnggelpjjmmaaGreatDoor
open Go.ChangeShapes Go.WideShapes Go.ChangeAt Go.RowKit
/-- A row of kc cells that may be written; its first ones hold l. -/
structure BFree (w : World) (g : Nat) (l : List UInt8) (kc : Nat) : Prop where
  at0 : BAt w g 0 l
  some : ∀ j, j < kc → (w.cell? ⟨g, j, none⟩).isSome = true
  free : ∀ j, j < kc → w.frozen? ⟨g, j, none⟩ = false
  le : l.length ≤ kc
  lt : g < w.heap.size
theorem BFree.keep {W W' : World} {g kc : Nat} {l : List UInt8} (h : BFree W g l kc) (hb : Below W.heap.size W W') : BFree W' g l kc :=
  ⟨h.at0.keep hb, fun j hj => by rw [hb.cell (p := ⟨g, j, none⟩) h.lt]; exact h.some j hj, fun j hj => by rw [hb.frozen (p := ⟨g, j, none⟩) h.lt]; exact h.free j hj, h.le, Nat.lt_of_lt_of_le h.lt hb.size⟩
theorem bytes_of_text2 (w : World) (s : ByteArray) : ∃ C cap, (convert 9 22 (.string s)).run Tryz.prog w = .ok (.slice (some ⟨w.heap.size, 0, none⟩) s.size cap) (w.drew.alloc (.cells C 5 (C.size, C.size + 1))) ∧ BFree (w.drew.alloc (.cells C 5 (C.size, C.size + 1))) w.heap.size s.data.toList cap := by
  have h1 := run_bytes_of_string (P := Tryz.prog) w 9 22 5 s Tryz.underlying9 Tryz.underlying22 Tryz.underlying5
  have h2 := fun cap => BRow.made w s cap _ rfl
  refine ⟨_, _, h1, ?_⟩
  have h3 := h2 (grownCap w s.size 0 5)
  have hge := grownCap_ge w s.size 0 5
  have hC : (bytesRow s (grownCap w s.size 0 5)).size = grownCap w s.size 0 5 := by
    unfold bytesRow
    rw [Array.size_append, Array.size_map, Array.size_replicate]
    show s.size + _ = _
    omega
  refine ⟨fun i c hc => ?_, fun j hj => ?_, fun j hj => ?_, by simpa using hge, ?_⟩
  · obtain ⟨hi, rfl⟩ := List.getElem?_eq_some_iff.1 hc
    rw [Nat.zero_add]
    exact h3.cell i hi
  · show (World.cell? (w.alloc _) ⟨w.heap.size, j, none⟩).isSome = true
    rw [World.cell?_alloc_mark, Array.getElem?_eq_getElem (by omega)]; rfl
  · have e := heap_alloc_new w (.cells (bytesRow s (grownCap w s.size 0 5)) 5 ((bytesRow s (grownCap w s.size 0 5)).size, (bytesRow s (grownCap w s.size 0 5)).size + 1))
    show World.frozen? (w.alloc _) ⟨w.heap.size, j, none⟩ = false
    unfold World.frozen?
    rw [e]
    simp
    omega
  · show w.heap.size < (w.drew.heap.push _).size
    rw [Array.size_push]; exact Nat.lt_succ_self _
def bytesV (l : List UInt8) : List Value := l.map fun c => Value.int .u8 (c.toNat : Int)
theorem bytesV_len (l : List UInt8) : (bytesV l).length = l.length := by simp [bytesV]
theorem bytesV_one (l : List UInt8) : ∀ u ∈ bytesV l, u.oneCell' = true := by
  intro u hu
  simp only [bytesV, List.mem_map] at hu
  obtain ⟨c, _, rfl⟩ := hu
  rfl
theorem bytesV_at {w : World} {b off : Nat} {l : List UInt8} (h : BAt w b off l) : ∀ j u, (bytesV l)[j]? = some u → w.cell? ((⟨b, off, none⟩ : Addr).add j) = some u := by
  intro j u hj
  have hadd : (⟨b, off, none⟩ : Addr).add j = ⟨b, off + j, none⟩ := by unfold Addr.add; split <;> simp_all
  rw [hadd]
  simp only [bytesV, List.getElem?_map, Option.map_eq_some_iff] at hj
  obtain ⟨c, hc, rfl⟩ := hj
  exact h j c hc
theorem below_setCells (g : Nat) : ∀ (vs : List Value) (o : Nat) (w : World), (w.setCells g o vs).heap.size = w.heap.size ∧ ∀ base, base ≤ g → Below base w (w.setCells g o vs)
  | [], _, w => ⟨rfl, fun _ _ => Below.refl _ _⟩
  | v :: r, o, w => by
    obtain ⟨h1, h2⟩ := below_setCells g r (o + 1) (w.setCell ⟨g, o, none⟩ v)
    refine ⟨by rw [World.setCells, h1]; simp, fun base hb => ?_⟩
    rw [World.setCells]
    exact ((Below.refl base w).setCell hb v).trans (h2 base hb)
set_option maxHeartbeats 1000000 in
theorem run_append_bytes (w : World) (ty : TypeId) (base g kc : Nat) (l : List UInt8) (hf : BFree w g l kc) (hbg : base ≤ g) (hbw : base ≤ w.heap.size) (b off cb : Nat) (bl : List UInt8) (hbl : BAt w b off bl) (hl : l.length + bl.length ≤ 1000000) :
    ∃ v' w', (Builtin.append_ #[22, 22] ty #[.slice (some ⟨g, 0, none⟩) l.length kc, .slice (some ⟨b, off, none⟩) bl.length cb]).run Tryz.prog w = .ok v' w' ∧ (∃ a k, v' = .slice a (l ++ bl).length k) ∧ BOwn w' base v' (l ++ bl) ∧ Below base w w' ∧ w.heap.size ≤ w'.heap.size := by
  obtain ⟨i0, hi, hz0, hz1, hz2⟩ := info_parts infoByteR
  by_cases hroom : l.length + bl.length ≤ kc
  · have hfc := run_firstCells_some (P := Tryz.prog) w i0.size bl.length ⟨b, off, none⟩ bl.length cb (bytesV bl) (by rw [bytesV_len, hz1, Nat.mul_one]) (bytesV_at hbl)
    have hst := run_storeCells_cells (P := Tryz.prog) g l.length (bytesV bl) 0 w (fun j hj => by rw [bytesV_len] at hj; exact hf.some _ (by omega)) (fun j hj => by rw [bytesV_len] at hj; exact hf.free _ (by omega)) (bytesV_one bl)
    rw [Nat.add_zero] at hst
    have hst' : (storeCells ⟨g, l.length * i0.size, none⟩ (bytesV bl) 0).run Tryz.prog w = .ok () (w.setCells g l.length (bytesV bl)) := by rw [hz1, Nat.mul_one]; exact hst
    refine ⟨.slice (some ⟨g, 0, none⟩) (l.length + bl.length) kc, w.setCells g l.length (bytesV bl), ?_, ⟨_, _, by rw [List.length_append]⟩, .inr ⟨g, kc, by rw [List.length_append], hbg, ?_⟩, (below_setCells g _ _ w).2 base hbg, by rw [(below_setCells g _ _ w).1]; exact Nat.le_refl _⟩
    · simp [Builtin.append_, run_underlying Tryz.underlying22, sizeOf, typeInfo, hi, Builtin.lenOf, hroom, hfc, Addr.add_lit, hst']
    · refine ⟨fun i c hc => ?_, fun o ho => by rw [World.frozen?_setCells]; exact hf.free o (by rw [List.length_append] at ho; omega), by rw [(below_setCells g _ _ w).1]; exact hf.lt⟩
      rw [Nat.zero_add]
      by_cases hi0 : i < l.length
      · rw [World.cell?_setCells_out g _ _ _ _ (fun _ _ => .inl hi0)]
        rw [List.getElem?_append_left hi0] at hc
        have := hf.at0 i c hc
        rwa [Nat.zero_add] at this
      · rw [List.getElem?_append_right (by omega)] at hc
        obtain ⟨hlt, hcc⟩ := List.getElem?_eq_some_iff.1 hc
        have hin := World.cell?_setCells_in g (bytesV bl) l.length w (fun j hj => by rw [bytesV_len] at hj; exact hf.some _ (by omega)) (i - l.length) (by rw [bytesV_len]; exact hlt)
        rw [show l.length + (i - l.length) = i from by omega] at hin
        rw [hin]
        simp [bytesV, hcc]
  · have holds : ∀ j u, (bytesV l)[j]? = some u → w.cell? ((⟨g, 0, none⟩ : Addr).add j) = some u := bytesV_at hf.at0
    have hr := run_append_grow (P := Tryz.prog) w 22 ty 5 i0 _ Tryz.underlying22 hi hz0 ⟨g, 0, none⟩ l.length kc (bytesV l) (by rw [bytesV_len, hz1, Nat.mul_one]) holds ⟨b, off, none⟩ bl.length cb (bytesV bl) (by rw [bytesV_len, hz1, Nat.mul_one]) (bytesV_at hbl) (by omega) (by omega) (growslice_fits (by omega) (by rw [hz2]; omega))
    have hge := grownCap_ge w (l.length + bl.length) kc 5
    refine ⟨_, _, hr, ⟨_, _, by rw [List.length_append]⟩, .inr ⟨w.heap.size, _, by rw [List.length_append], hbw, ?_⟩, ((Below.refl base w).drew).alloc (by exact hbw) _, by simp⟩
    refine ⟨fun i c hc => ?_, fun o ho => ?_, by simp⟩
    · rw [Nat.zero_add]
      show World.cell? (w.alloc _) ⟨w.heap.size, i, none⟩ = _
      rw [World.cell?_alloc_mark]
      have hlt : i < (l ++ bl).length := (List.getElem?_eq_some_iff.1 hc).1
      have e : ((bytesV l).toArray ++ (bytesV bl).toArray) = (bytesV (l ++ bl)).toArray := by simp [bytesV]
      rw [e, Array.getElem?_append_left (by simpa [bytesV_len] using hlt)]
      rw [List.getElem?_toArray]
      unfold bytesV
      rw [List.getElem?_map, hc]; rfl
    · show World.frozen? (w.alloc _) ⟨w.heap.size, o, none⟩ = false
      unfold World.frozen?
      rw [heap_alloc_new]
      simp
theorem wpList_append_bytes {ops : Array Oper} {rest : List Oper} {o : Oper} {a : Act} {Q : Exit → Act → World → Prop} (w : World) (hgd : o.guard = none) (s x : Operand)
    (ho : o.op = .call { callee := .builtin .append, args := #[s, x], argTypes := #[22, 22] }) (base g kc : Nat) (l : List UInt8) (hs : a.eval s = .slice (some ⟨g, 0, none⟩) l.length kc) (hf : BFree w g l kc) (hbg : base ≤ g) (hbw : base ≤ w.heap.size)
    (b off cb : Nat) (bl : List UInt8) (hx : a.eval x = .slice (some ⟨b, off, none⟩) bl.length cb) (hbl : BAt w b off bl) (hl : l.length + bl.length ≤ 1000000)
    (h : ∀ a' k' w', BOwn w' base (.slice a' (l ++ bl).length k') (l ++ bl) → Below base w w' → w.heap.size ≤ w'.heap.size → wpList Tryz.prog ops Q rest (a.put o.dst (.slice a' (l ++ bl).length k')) w') :
    wpList Tryz.prog ops Q (o :: rest) a w := by
  refine wpList_plain hgd fun K hK => ?_
  obtain ⟨v', w', hr, ⟨a', k', rfl⟩, h2, h3, h4⟩ := run_append_bytes w o.type base g kc l hf hbg hbw b off cb bl hbl hl
  unfold Oper.wp execOp
  simp only [ho, resolve, invoke, builtin, Sem.run_bind, Sem.run_pure, Result.andThen_ok, List.map_toArray, List.map_cons, List.map_nil, hs, hx, hr]
  exact hK _ _ (h a' k' w' h2 h3 h4)
end Go.Proofs.YtonnggelpjjmmaaGreatDoor
/-
  What PackResponse and its model answer.
-/
namespace Go.Proofs.YtonnggelpjjmmaaGreatDoor
open Go.ChangeShapes Go.WideShapes Go.ChangeAt Go.RowKit
theorem numT_small (s : Int) (h1 : 200 ≤ s) (h2 : s ≤ 599) : (num.numT s).size ≤ 100 := by
  have key : ∀ k : Fin 400, (num.numT ((k.val + 200 : Nat) : Int)).size ≤ 100 := by decide +kernel
  have := key ⟨(s - 200).toNat, by omega⟩
  rwa [show (((s - 200).toNat + 200 : Nat) : Int) = s from by omega] at this
set_option maxRecDepth 100000 in
set_option maxHeartbeats 8000000 in
theorem specPackResp_at (w : World) (s : Int) (a : Option Addr) (cap : Nat) (l : List Hdr) (db doff bc : Nat) (bl : List UInt8) (hl : l.length ≤ 1048576) (hbl : bl.length ≤ 1048576) (hi : HdsIn w a l) (hb : BAt w db doff bl) :
    Calls Tryz.prog 51 #[.agg #[.int .i64 s, .slice a l.length cap, .slice (some ⟨db, doff, none⟩) bl.length bc]] w fun e w' => BGot (respC s l bl.length) (respB s l bl) w.heap.size e w' ∧ Below w.heap.size w w' := by
  obtain ⟨W, hW⟩ : ∃ W, W = (w.alloc (.cells #[.int .i64 s, .slice a l.length cap, .slice (some ⟨db, doff, none⟩) bl.length bc] 32)).alloc (.cells #[.int .i64 0, .slice none 0 0] 29) := ⟨_, rfl⟩
  have HW : Hid (W = (w.alloc (.cells #[.int .i64 s, .slice a l.length cap, .slice (some ⟨db, doff, none⟩) bl.length bc] 32)).alloc (.cells #[.int .i64 0, .slice none 0 0] 29)) := hW
  have bW : Below w.heap.size w W := by rw [hW]; exact ((Below.refl _ _).alloc (Nat.le_refl _) _).alloc (by simp) _
  have f0 : Three W w.heap.size (.int .i64 s) (.slice a l.length cap) (.slice (some ⟨db, doff, none⟩) bl.length bc) := by rw [hW]; exact (Three.new _ _ _ _ _).keep ((Below.refl _ _).alloc (Nat.le_refl _) _)
  have t0 : Two W (w.heap.size + 1) (.int .i64 0) (.slice none 0 0) := by
    rw [hW]
    have := Two.new (w.alloc (.cells #[.int .i64 s, .slice a l.length cap, .slice (some ⟨db, doff, none⟩) bl.length bc] 32)) (.int .i64 0) (.slice none 0 0) 29
    simpa using this
  have C := specResp_any W s a cap l (some ⟨db, doff, none⟩) bl.length bc hl hbl (hi.keep bW)
  have K0 : Hid (Below w.heap.size w W ∧ Three W w.heap.size (.int .i64 s) (.slice a l.length cap) (.slice (some ⟨db, doff, none⟩) bl.length bc) ∧ Two W (w.heap.size + 1) (.int .i64 0) (.slice none 0 0)) := ⟨bW, f0, t0⟩
  have HI : Hid (∀ X, Below w.heap.size w X → HdsIn X a l ∧ BAt X db doff bl) := fun X hx => ⟨hi.keep hx, hb.keep hx⟩
  clear hW bW f0 t0 hi hb
  have hc1 := K0.out.2.1.c1
  have hc2 := K0.out.2.1.c2
  rw [HW.out] at hc1 hc2
  go_enter Tryz.func51, Tryz.ntmps51
  go_wp2_with fail
  rw [← HW.out]
  refine C.mono ?_
  rintro e w1 ⟨rfl, hb1⟩
  have K1 : Hid (Below w.heap.size w w1 ∧ Three w1 w.heap.size (.int .i64 s) (.slice a l.length cap) (.slice (some ⟨db, doff, none⟩) bl.length bc) ∧ Two w1 (w.heap.size + 1) (.int .i64 0) (.slice none 0 0)) := ⟨K0.out.1.trans (hb1.mono K0.out.1.size), K0.out.2.1.keep hb1, K0.out.2.2.keep hb1⟩
  clear C hb1 K0 HW hc1 hc2
  by_cases c0 : respC s l bl.length = 0
  · have HB0 : Hid (respB s l bl = respL s l bl) := by show _ = _; rw [respB, if_pos c0]
    obtain ⟨y1, y2, y3, y4⟩ := respC_zero c0
    have hpl := packL_len y3
    obtain ⟨s1, s2⟩ := heads_sizes y3
    obtain ⟨t, ht⟩ : ∃ t : ByteArray, t = ⟨(packL l).toArray⟩ := ⟨_, rfl⟩
    have hts : t.size ≤ 6000 := by
      rw [ht]; show (packL l).toArray.size ≤ 6000; rw [List.size_toArray]; omega
    obtain ⟨d, hd⟩ : ∃ d : ByteArray, d = num.numT s := ⟨_, rfl⟩
    have hds : d.size ≤ 100 := by rw [hd]; exact numT_small s y1 y2
    have HD : Hid (∀ X, Calls Tryz.prog 90 #[.int .i64 s] X fun e w' => e = .returned (.string d) ∧ Below X.heap.size X w') := fun X => by rw [hd]; exact num.l1Digits_all s (by omega) (by omega) X
    have HP : Hid (∀ X, Below w.heap.size w X → Calls Tryz.prog 89 #[.slice a l.length cap] X fun e w' => e = .returned (.string t) ∧ Below X.heap.size X w') := fun X hb => by rw [ht]; exact l4Pack_any X a cap l (by omega) (fun i r hr => by have := s2 i r hr; omega) (HI.out X hb).1
    obtain ⟨x1, hx1⟩ : ∃ x : ByteArray, x = ⟨#[72, 84, 84, 80, 47, 49, 46, 49, 32]⟩ ++ d := ⟨_, rfl⟩
    have sx1 : x1.size = (⟨#[72, 84, 84, 80, 47, 49, 46, 49, 32]⟩ : ByteArray).size + (d : ByteArray).size := by rw [hx1, ByteArray.size_append]
    obtain ⟨x2, hx2⟩ : ∃ x : ByteArray, x = x1 ++ ⟨#[13, 10]⟩ := ⟨_, rfl⟩
    have sx2 : x2.size = (x1 : ByteArray).size + (⟨#[13, 10]⟩ : ByteArray).size := by rw [hx2, ByteArray.size_append]
    obtain ⟨x3, hx3⟩ : ∃ x : ByteArray, x = x2 ++ t := ⟨_, rfl⟩
    have sx3 : x3.size = (x2 : ByteArray).size + (t : ByteArray).size := by rw [hx3, ByteArray.size_append]
    obtain ⟨x4, hx4⟩ : ∃ x : ByteArray, x = x3 ++ ⟨#[13, 10]⟩ := ⟨_, rfl⟩
    have sx4 : x4.size = (x3 : ByteArray).size + (⟨#[13, 10]⟩ : ByteArray).size := by rw [hx4, ByteArray.size_append]
    have lit2 : (⟨#[13, 10]⟩ : ByteArray).size = 2 := rfl
    have lit3 : (⟨#[72, 84, 84, 80, 47, 49, 46, 49, 32]⟩ : ByteArray).size = 9 := rfl
    have add1 : ∀ X, (Op.stringOp .add ⟨#[72, 84, 84, 80, 47, 49, 46, 49, 32]⟩ d).run Tryz.prog X = .ok (.string x1) X := fun X => by rw [hx1]; exact run_string_add_sum X _ _ (by omega)
    have add2 : ∀ X, (Op.stringOp .add x1 ⟨#[13, 10]⟩).run Tryz.prog X = .ok (.string x2) X := fun X => by rw [hx2]; exact run_string_add_sum X _ _ (by omega)
    have add3 : ∀ X, (Op.stringOp .add x2 t).run Tryz.prog X = .ok (.string x3) X := fun X => by rw [hx3]; exact run_string_add_sum X _ _ (by omega)
    have add4 : ∀ X, (Op.stringOp .add x3 ⟨#[13, 10]⟩).run Tryz.prog X = .ok (.string x4) X := fun X => by rw [hx4]; exact run_string_add_sum X _ _ (by omega)
    have HX4 : Hid (x4.data.toList = respH s l) := by
      show _ = _
      rw [hx4, hx3, hx2, hx1, hd, ht]
      simp only [respH, verL, happ_list]
      simp
    have hx4s : x4.data.toList.length ≤ 7000 := by
      have : x4.data.toList.length = x4.size := by simp
      omega
    have HLL : Hid (x4.size = x4.data.toList.length) := by show _ = _; simp
    clear hx1 hx2 hx3 hx4 lit2 lit3 sx1 sx2 sx3 sx4 hts hds hd ht s1 s2 hpl
    rw [c0]
    have HC0 : Hid (respC s l bl.length = 0) := c0
    clear c0 y3
    have BW : Hid (Below w1.heap.size w1 w1.drew) := (Below.refl _ _).drew
    have HKS : Hid (∀ X, Below w1.heap.size w1 X → X.cell? ⟨w.heap.size, 0, none⟩ = some (.int .i64 s) ∧ X.cell? ⟨w.heap.size, 1, none⟩ = some (.slice a l.length cap) ∧ X.cell? ⟨w.heap.size, 2, none⟩ = some (.slice (some ⟨db, doff, none⟩) bl.length bc)) := fun X hb => ⟨(K1.out.2.1.keep hb).c0, (K1.out.2.1.keep hb).c1, (K1.out.2.1.keep hb).c2⟩
    go_wp2_with fail
    go_cut [4] from 11 to 21 (fun s4 wx => ∃ (g kc : Nat), s4 = .slice (some ⟨g, 0, none⟩) x4.size kc ∧ BFree wx g x4.data.toList kc ∧ w1.heap.size ≤ g ∧ Below w1.heap.size w1 wx)
    case first =>
      go_region_held (fun X => X.cell? ⟨w.heap.size, 0, none⟩ = some (.int .i64 s) ∧ X.cell? ⟨w.heap.size, 1, none⟩ = some (.slice a l.length cap) ∧ X.cell? ⟨w.heap.size, 2, none⟩ = some (.slice (some ⟨db, doff, none⟩) bl.length bc))
        (first | exact HKS.out _ BX.out | exact HKS.out _ BB.out | exact HKS.out _ BA.out | exact HKS.out _ BW.out)
        (first
        | (go_at_call 90; refine (HD.out _).mono ?_; rintro e wa ⟨rfl, hba⟩; have BA : Hid (Below w1.heap.size w1 wa) := BW.out.trans (hba.mono BW.out.size); clear hba)
        | (go_at_call 89; refine (HP.out _ (K1.out.1.trans (BA.out.mono K1.out.1.size))).mono ?_; rintro e wb ⟨rfl, hbb⟩; have BB : Hid (Below w1.heap.size w1 wb) := BA.out.trans (hbb.mono BA.out.size); clear hbb; obtain ⟨C, kc, hcv, hbm⟩ := bytes_of_text2 wb x4; obtain ⟨X, hX⟩ : ∃ X, X = wb.drew.alloc (.cells C 5 (C.size, C.size + 1)) := ⟨_, rfl⟩; have HX : Hid (Below wb.heap.size wb X) := (by rw [hX]; exact ((Below.refl _ _).drew).alloc (Nat.le_refl _) _); rw [← hX] at hcv hbm; have HM : Hid (BFree X wb.heap.size x4.data.toList kc) := hbm; clear hbm hX; have BX : Hid (Below w1.heap.size w1 X) := BB.out.trans (HX.out.mono BB.out.size)))
      all_goals (go_wp2_with fail; go_meet; exact ⟨_, _, rfl, HM.out, BB.out.size, BX.out⟩)
    case rest =>
    obtain ⟨g, kc, rfl, hfr, hgl, hbx⟩ := hcut
    have K3 : Hid (Below w.heap.size w wc ∧ Three wc w.heap.size (.int .i64 s) (.slice a l.length cap) (.slice (some ⟨db, doff, none⟩) bl.length bc) ∧ Two wc (w.heap.size + 1) (.int .i64 0) (.slice none 0 0)) := ⟨K1.out.1.trans (hbx.mono K1.out.1.size), K1.out.2.1.keep hbx, K1.out.2.2.keep hbx⟩
    have HFR : Hid (BFree wc g x4.data.toList kc ∧ w1.heap.size ≤ g ∧ w.heap.size + 1 < w1.heap.size) := ⟨hfr, hgl, K1.out.2.2.lt⟩
    clear hfr hgl hbx HKS BW HD HP K1 add1 add2 add3 add4
    generalize wc = w3 at *
    have q2 := K3.out.2.1.c2
    rw [HLL.out]
    have HBL : Hid (BAt w3 db doff bl) := (HI.out _ K3.out.1).2
    go_wp2_with (at_builtin; refine wpList_append_bytes _ rfl (.tmp 22) (.tmp 24) rfl (w.heap.size + 2) g kc x4.data.toList rfl HFR.out.1 (by have := HFR.out; omega) (by have := K3.out.2.2.lt; omega) db doff bc bl rfl HBL.out (by omega) ?_; intro a4 k4 w4 ho4 hb4 hs4; have K4 : Hid (Below w.heap.size w w4 ∧ Two w4 (w.heap.size + 1) (.int .i64 0) (.slice none 0 0) ∧ BOwn w4 (w.heap.size + 2) (.slice a4 (x4.data.toList ++ bl).length k4) (x4.data.toList ++ bl)) := ⟨K3.out.1.trans (hb4.mono (by omega)), ⟨(by rw [hb4.cell (p := ⟨w.heap.size + 1, 0, none⟩) (Nat.lt_succ_self _)]; exact K3.out.2.2.c0), (by rw [hb4.cell (p := ⟨w.heap.size + 1, 1, none⟩) (Nat.lt_succ_self _)]; exact K3.out.2.2.c1), (fun o => by rw [hb4.frozen (p := ⟨w.heap.size + 1, o, none⟩) (Nat.lt_succ_self _)]; exact K3.out.2.2.fr o), Nat.lt_of_lt_of_le K3.out.2.2.lt hs4⟩, ho4⟩; obtain ⟨r0, r1, rf, _⟩ := K4.out.2.1; have rf0 := rf 0; have rf1 := rf 1; clear rf ho4 hb4 hs4 q2; generalize (x4.data.toList ++ bl).length = nn at *)
    have T2 := two_put (v0 := .int .i64 0) (v1 := .slice a4 nn k4) K4.out.2.1
    refine bodyPost_ret (v := .agg #[.int .i64 0, .slice a4 nn k4]) (by simp [results, Tryz.results51, go_sem, T2.c0, T2.c1]) rfl ⟨⟨_, _, _, (by rw [HC0.out]), ?_⟩, (K4.out.1.setCell (by simp) _).setCell (by simp) _⟩
    rw [HB0.out, show respL s l bl = x4.data.toList ++ bl from by rw [HX4.out]; rfl]
    rcases K4.out.2.2 with ⟨e, he⟩ | ⟨g', k', e, hg', hm'⟩
    · exact .inl ⟨e, he⟩
    · exact .inr ⟨g', k', e, by omega, hm'.put _ _ (by omega)⟩
  · have HB0 : Hid (respB s l bl = []) := by show _ = _; rw [respB, if_neg c0]
    have HF : Hid (∀ e w', e = .returned (.agg #[.int .i64 (respC s l bl.length), .slice none 0 0]) → BGot (respC s l bl.length) (respB s l bl) w.heap.size e w') := fun e w' he => by subst he; rw [HB0.out]; exact BGot.nil _ _ _
    obtain ⟨t0, t1, tf, _⟩ := K1.out.2.2
    have tf0 := tf 0
    have tf1 := tf 1
    have HB1 : Hid (Below w.heap.size w w1) := K1.out.1
    have T2 : Hid (Two ((w1.setCell ⟨w.heap.size + 1, 0, none⟩ (.int .i64 (respC s l bl.length))).setCell ⟨w.heap.size + 1, 1, none⟩ (.slice none 0 0)) (w.heap.size + 1) (.int .i64 (respC s l bl.length)) (.slice none 0 0)) := two_put K1.out.2.2
    clear K1 HI HB0 tf
    obtain ⟨c, hcc⟩ : ∃ c, respC s l bl.length = c := ⟨_, rfl⟩
    obtain ⟨bb, hbb⟩ : ∃ bb, respB s l bl = bb := ⟨_, rfl⟩
    have HCC : Hid (respC s l bl.length = c ∧ respB s l bl = bb) := ⟨hcc, hbb⟩
    rw [hcc] at HF T2 c0 ⊢
    rw [hbb] at HF
    clear hcc hbb
    generalize l.length = n at *
    go_wp2_with fail
    exact bodyPost_ret (v := .agg #[.int .i64 c, .slice none 0 0]) (by simp [results, Tryz.results51, go_sem, T2.out.c0, T2.out.c1]) rfl ⟨by rw [HCC.out.1, HCC.out.2]; exact HF.out _ _ rfl, (HB1.out.setCell (by simp) _).setCell (by simp) _⟩
set_option maxRecDepth 100000 in
set_option maxHeartbeats 8000000 in
theorem implPackResp_at (E : Errs) (w : World) (s : Int) (a : Option Addr) (cap : Nat) (l : List Hdr) (db doff bc : Nat) (bl : List UInt8) (hl : l.length ≤ 1048576) (hbl : bl.length ≤ 1048576) (hset : SetIs w) (hE : ErrsIs w E) (hpow : num.PowIs w) (hi : HdsIn w a l) (hb : BAt w db doff bl) :
    Calls Tryz.prog 10 #[.agg #[.int .i64 s, .slice a l.length cap, .slice (some ⟨db, doff, none⟩) bl.length bc]] w fun e w' => BGot (respC s l bl.length) (respB s l bl) w.heap.size e w' ∧ Below w.heap.size w w' := by
  obtain ⟨W, hW⟩ : ∃ W, W = (w.alloc (.cells #[.int .i64 s, .slice a l.length cap, .slice (some ⟨db, doff, none⟩) bl.length bc] 32)).alloc (.cells #[.int .i64 0, .slice none 0 0] 29) := ⟨_, rfl⟩
  have HW : Hid (W = (w.alloc (.cells #[.int .i64 s, .slice a l.length cap, .slice (some ⟨db, doff, none⟩) bl.length bc] 32)).alloc (.cells #[.int .i64 0, .slice none 0 0] 29)) := hW
  have bW : Below w.heap.size w W := by rw [hW]; exact ((Below.refl _ _).alloc (Nat.le_refl _) _).alloc (by simp) _
  have f0 : Three W w.heap.size (.int .i64 s) (.slice a l.length cap) (.slice (some ⟨db, doff, none⟩) bl.length bc) := by rw [hW]; exact (Three.new _ _ _ _ _).keep ((Below.refl _ _).alloc (Nat.le_refl _) _)
  have t0 : Two W (w.heap.size + 1) (.int .i64 0) (.slice none 0 0) := by
    rw [hW]
    have := Two.new (w.alloc (.cells #[.int .i64 s, .slice a l.length cap, .slice (some ⟨db, doff, none⟩) bl.length bc] 32)) (.int .i64 0) (.slice none 0 0) 29
    simpa using this
  have C := implResp_any E W s a cap l (some ⟨db, doff, none⟩) bl.length bc hl hbl (hset.below bW) (hE.below bW) (hi.keep bW)
  have K0 : Hid (Below w.heap.size w W ∧ Three W w.heap.size (.int .i64 s) (.slice a l.length cap) (.slice (some ⟨db, doff, none⟩) bl.length bc) ∧ Two W (w.heap.size + 1) (.int .i64 0) (.slice none 0 0)) := ⟨bW, f0, t0⟩
  have HI : Hid (∀ X, Below w.heap.size w X → (HdsIn X a l ∧ BAt X db doff bl) ∧ SetIs X ∧ num.PowIs X) := fun X hx => ⟨⟨hi.keep hx, hb.keep hx⟩, hset.below hx, hpow.below hx⟩
  clear hW bW f0 t0 hi hb hset hE hpow
  have hc1 := K0.out.2.1.c1
  have hc2 := K0.out.2.1.c2
  rw [HW.out] at hc1 hc2
  go_enter Tryz.func10, Tryz.ntmps10
  go_wp2_with fail
  rw [← HW.out]
  refine C.mono ?_
  rintro e w1 ⟨rfl, hb1⟩
  have K1 : Hid (Below w.heap.size w w1 ∧ Three w1 w.heap.size (.int .i64 s) (.slice a l.length cap) (.slice (some ⟨db, doff, none⟩) bl.length bc) ∧ Two w1 (w.heap.size + 1) (.int .i64 0) (.slice none 0 0)) := ⟨K0.out.1.trans (hb1.mono K0.out.1.size), K0.out.2.1.keep hb1, K0.out.2.2.keep hb1⟩
  clear C hb1 K0 HW hc1 hc2
  by_cases c0 : respC s l bl.length = 0
  · have HB0 : Hid (respB s l bl = respL s l bl) := by show _ = _; rw [respB, if_pos c0]
    obtain ⟨y1, y2, y3, y4⟩ := respC_zero c0
    have hpl := packL_len y3
    obtain ⟨s1, s2⟩ := heads_sizes y3
    obtain ⟨t, ht⟩ : ∃ t : ByteArray, t = ⟨(packL l).toArray⟩ := ⟨_, rfl⟩
    have hts : t.size ≤ 6000 := by
      rw [ht]; show (packL l).toArray.size ≤ 6000; rw [List.size_toArray]; omega
    obtain ⟨d, hd⟩ : ∃ d : ByteArray, d = num.numT s := ⟨_, rfl⟩
    have hds : d.size ≤ 100 := by rw [hd]; exact numT_small s y1 y2
    have HD : Hid (∀ X, Below w.heap.size w X → Calls Tryz.prog 33 #[.int .i64 s] X fun e w' => e = .returned (.agg #[.int .i64 0, .string d]) ∧ Below X.heap.size X w') := fun X hb => by rw [hd]; exact num.implNum_any s X (by omega) (by omega) (HI.out X hb).2.2
    have HP : Hid (∀ X, Below w.heap.size w X → Calls Tryz.prog 31 #[.slice a l.length cap] X fun e w' => e = .returned (.agg #[.int .i64 0, .string t]) ∧ Below X.heap.size X w') := fun X hb => by rw [ht]; exact implPack_ok X a cap l y3 (HI.out X hb).2.1 (HI.out X hb).1.1
    obtain ⟨x1, hx1⟩ : ∃ x : ByteArray, x = ⟨#[72, 84, 84, 80, 47, 49, 46, 49, 32]⟩ ++ d := ⟨_, rfl⟩
    have sx1 : x1.size = (⟨#[72, 84, 84, 80, 47, 49, 46, 49, 32]⟩ : ByteArray).size + (d : ByteArray).size := by rw [hx1, ByteArray.size_append]
    obtain ⟨x2, hx2⟩ : ∃ x : ByteArray, x = x1 ++ ⟨#[13, 10]⟩ := ⟨_, rfl⟩
    have sx2 : x2.size = (x1 : ByteArray).size + (⟨#[13, 10]⟩ : ByteArray).size := by rw [hx2, ByteArray.size_append]
    obtain ⟨x3, hx3⟩ : ∃ x : ByteArray, x = x2 ++ t := ⟨_, rfl⟩
    have sx3 : x3.size = (x2 : ByteArray).size + (t : ByteArray).size := by rw [hx3, ByteArray.size_append]
    obtain ⟨x4, hx4⟩ : ∃ x : ByteArray, x = x3 ++ ⟨#[13, 10]⟩ := ⟨_, rfl⟩
    have sx4 : x4.size = (x3 : ByteArray).size + (⟨#[13, 10]⟩ : ByteArray).size := by rw [hx4, ByteArray.size_append]
    have lit2 : (⟨#[13, 10]⟩ : ByteArray).size = 2 := rfl
    have lit3 : (⟨#[72, 84, 84, 80, 47, 49, 46, 49, 32]⟩ : ByteArray).size = 9 := rfl
    have add1 : ∀ X, (Op.stringOp .add ⟨#[72, 84, 84, 80, 47, 49, 46, 49, 32]⟩ d).run Tryz.prog X = .ok (.string x1) X := fun X => by rw [hx1]; exact run_string_add_sum X _ _ (by omega)
    have add2 : ∀ X, (Op.stringOp .add x1 ⟨#[13, 10]⟩).run Tryz.prog X = .ok (.string x2) X := fun X => by rw [hx2]; exact run_string_add_sum X _ _ (by omega)
    have add3 : ∀ X, (Op.stringOp .add x2 t).run Tryz.prog X = .ok (.string x3) X := fun X => by rw [hx3]; exact run_string_add_sum X _ _ (by omega)
    have add4 : ∀ X, (Op.stringOp .add x3 ⟨#[13, 10]⟩).run Tryz.prog X = .ok (.string x4) X := fun X => by rw [hx4]; exact run_string_add_sum X _ _ (by omega)
    have HX4 : Hid (x4.data.toList = respH s l) := by
      show _ = _
      rw [hx4, hx3, hx2, hx1, hd, ht]
      simp only [respH, verL, happ_list]
      simp
    have hx4s : x4.data.toList.length ≤ 7000 := by
      have : x4.data.toList.length = x4.size := by simp
      omega
    have HLL : Hid (x4.size = x4.data.toList.length) := by show _ = _; simp
    clear hx1 hx2 hx3 hx4 lit2 lit3 sx1 sx2 sx3 sx4 hts hds hd ht s1 s2 hpl
    rw [c0]
    have HC0 : Hid (respC s l bl.length = 0) := c0
    clear c0 y3
    have q0 := K1.out.2.1.c0
    have C2 := HD.out w1 K1.out.1
    go_wp2_with fail
    refine C2.mono ?_
    rintro e wa ⟨rfl, hba⟩
    have KA : Hid (Below w.heap.size w wa ∧ Three wa w.heap.size (.int .i64 s) (.slice a l.length cap) (.slice (some ⟨db, doff, none⟩) bl.length bc) ∧ Two wa (w.heap.size + 1) (.int .i64 0) (.slice none 0 0)) := ⟨K1.out.1.trans (hba.mono K1.out.1.size), K1.out.2.1.keep hba, K1.out.2.2.keep hba⟩
    clear C2 hba q0 K1 HD
    have hft := f_field_text
    have q1 := KA.out.2.1.c1
    have C3 := HP.out wa KA.out.1
    go_wp2_with fail
    refine C3.mono ?_
    rintro e wb ⟨rfl, hbb⟩
    have KB : Hid (Below w.heap.size w wb ∧ Three wb w.heap.size (.int .i64 s) (.slice a l.length cap) (.slice (some ⟨db, doff, none⟩) bl.length bc) ∧ Two wb (w.heap.size + 1) (.int .i64 0) (.slice none 0 0)) := ⟨KA.out.1.trans (hbb.mono KA.out.1.size), KA.out.2.1.keep hbb, KA.out.2.2.keep hbb⟩
    clear C3 hbb q1 KA HP
    obtain ⟨C, kc, hcv, hbm⟩ := bytes_of_text2 wb x4
    obtain ⟨w3, hX⟩ : ∃ X, X = wb.drew.alloc (.cells C 5 (C.size, C.size + 1)) := ⟨_, rfl⟩
    have hbx : Below wb.heap.size wb w3 := by rw [hX]; exact ((Below.refl _ _).drew).alloc (Nat.le_refl _) _
    rw [← hX] at hcv hbm
    have K3 : Hid (Below w.heap.size w w3 ∧ Three w3 w.heap.size (.int .i64 s) (.slice a l.length cap) (.slice (some ⟨db, doff, none⟩) bl.length bc) ∧ Two w3 (w.heap.size + 1) (.int .i64 0) (.slice none 0 0)) := ⟨KB.out.1.trans (hbx.mono KB.out.1.size), KB.out.2.1.keep hbx, KB.out.2.2.keep hbx⟩
    obtain ⟨g, hg⟩ : ∃ g, g = wb.heap.size := ⟨_, rfl⟩
    rw [← hg] at hcv hbm
    have HFR : Hid (BFree w3 g x4.data.toList kc ∧ wb.heap.size ≤ g ∧ w.heap.size + 1 < wb.heap.size) := ⟨hbm, by omega, KB.out.2.2.lt⟩
    clear hbm hX hbx KB hg
    have q2 := K3.out.2.1.c2
    rw [HLL.out] at hcv
    have HBL : Hid (BAt w3 db doff bl) := (HI.out _ K3.out.1).1.2
    go_wp2_with (at_builtin; refine wpList_append_bytes _ rfl (.tmp 26) (.tmp 28) rfl (w.heap.size + 2) g kc x4.data.toList rfl HFR.out.1 (by have := HFR.out; omega) (by have := K3.out.2.2.lt; omega) db doff bc bl rfl HBL.out (by omega) ?_; intro a4 k4 w4 ho4 hb4 hs4; have K4 : Hid (Below w.heap.size w w4 ∧ Two w4 (w.heap.size + 1) (.int .i64 0) (.slice none 0 0) ∧ BOwn w4 (w.heap.size + 2) (.slice a4 (x4.data.toList ++ bl).length k4) (x4.data.toList ++ bl)) := ⟨K3.out.1.trans (hb4.mono (by omega)), ⟨(by rw [hb4.cell (p := ⟨w.heap.size + 1, 0, none⟩) (Nat.lt_succ_self _)]; exact K3.out.2.2.c0), (by rw [hb4.cell (p := ⟨w.heap.size + 1, 1, none⟩) (Nat.lt_succ_self _)]; exact K3.out.2.2.c1), (fun o => by rw [hb4.frozen (p := ⟨w.heap.size + 1, o, none⟩) (Nat.lt_succ_self _)]; exact K3.out.2.2.fr o), Nat.lt_of_lt_of_le K3.out.2.2.lt hs4⟩, ho4⟩; obtain ⟨r0, r1, rf, _⟩ := K4.out.2.1; have rf0 := rf 0; have rf1 := rf 1; clear rf ho4 hb4 hs4 q2; generalize (x4.data.toList ++ bl).length = nn at *)
    have T2 := two_put (v0 := .int .i64 0) (v1 := .slice a4 nn k4) K4.out.2.1
    refine bodyPost_ret (v := .agg #[.int .i64 0, .slice a4 nn k4]) (by simp [results, Tryz.results10, go_sem, T2.c0, T2.c1]) rfl ⟨⟨_, _, _, (by rw [HC0.out]), ?_⟩, (K4.out.1.setCell (by simp) _).setCell (by simp) _⟩
    rw [HB0.out, show respL s l bl = x4.data.toList ++ bl from by rw [HX4.out]; rfl]
    rcases K4.out.2.2 with ⟨e, he⟩ | ⟨g', k', e, hg', hm'⟩
    · exact .inl ⟨e, he⟩
    · exact .inr ⟨g', k', e, by omega, hm'.put _ _ (by omega)⟩
  · have HB0 : Hid (respB s l bl = []) := by show _ = _; rw [respB, if_neg c0]
    have HF : Hid (∀ e w', e = .returned (.agg #[.int .i64 (respC s l bl.length), .slice none 0 0]) → BGot (respC s l bl.length) (respB s l bl) w.heap.size e w') := fun e w' he => by subst he; rw [HB0.out]; exact BGot.nil _ _ _
    obtain ⟨t0, t1, tf, _⟩ := K1.out.2.2
    have tf0 := tf 0
    have tf1 := tf 1
    have HB1 : Hid (Below w.heap.size w w1) := K1.out.1
    have T2 : Hid (Two ((w1.setCell ⟨w.heap.size + 1, 0, none⟩ (.int .i64 (respC s l bl.length))).setCell ⟨w.heap.size + 1, 1, none⟩ (.slice none 0 0)) (w.heap.size + 1) (.int .i64 (respC s l bl.length)) (.slice none 0 0)) := two_put K1.out.2.2
    clear K1 HI HB0 tf
    obtain ⟨c, hcc⟩ : ∃ c, respC s l bl.length = c := ⟨_, rfl⟩
    obtain ⟨bb, hbb⟩ : ∃ bb, respB s l bl = bb := ⟨_, rfl⟩
    have HCC : Hid (respC s l bl.length = c ∧ respB s l bl = bb) := ⟨hcc, hbb⟩
    rw [hcc] at HF T2 c0 ⊢
    rw [hbb] at HF
    clear hcc hbb
    generalize l.length = n at *
    go_wp2_with fail
    exact bodyPost_ret (v := .agg #[.int .i64 c, .slice none 0 0]) (by simp [results, Tryz.results10, go_sem, T2.out.c0, T2.out.c1]) rfl ⟨by rw [HCC.out.1, HCC.out.2]; exact HF.out _ _ rfl, (HB1.out.setCell (by simp) _).setCell (by simp) _⟩
end Go.Proofs.YtonnggelpjjmmaaGreatDoor
/-
  What the model's packing answers, with its room.
-/
namespace Go.Proofs.YtonnggelpjjmmaaGreatDoor
open Go.ChangeShapes Go.WideShapes Go.ChangeAt Go.RowKit
def BGotC (c : Int) (l : List UInt8) (base : Nat) (e : Ending) (w : World) : Prop := ∃ a n k, e = .returned (.agg #[.int .i64 c, .slice a n k]) ∧ BOwn w base (.slice a n k) l ∧ n ≤ k
theorem BGotC.nil (c : Int) (base : Nat) (w : World) : BGotC c [] base (.returned (.agg #[.int .i64 c, .slice none 0 0])) w := ⟨none, 0, 0, rfl, .inl ⟨rfl, rfl⟩, Nat.le_refl _⟩
theorem bfree_mine {w : World} {g kc : Nat} {l : List UInt8} (h : BFree w g l kc) : BMine w g l := ⟨h.at0, fun o ho => h.free o (Nat.lt_of_lt_of_le ho h.le), h.lt⟩
theorem bfree_size {w : World} {g kc : Nat} {s : ByteArray} (h : BFree w g s.data.toList kc) : s.size ≤ kc := by
  have := h.le
  simpa using this
set_option maxHeartbeats 1000000 in
theorem run_append_bytesC (w : World) (ty : TypeId) (base g kc : Nat) (l : List UInt8) (hf : BFree w g l kc) (hbg : base ≤ g) (hbw : base ≤ w.heap.size) (b off cb : Nat) (bl : List UInt8) (hbl : BAt w b off bl) (hl : l.length + bl.length ≤ 1000000) :
    ∃ v' w', (Builtin.append_ #[22, 22] ty #[.slice (some ⟨g, 0, none⟩) l.length kc, .slice (some ⟨b, off, none⟩) bl.length cb]).run Tryz.prog w = .ok v' w' ∧ (∃ a k, v' = .slice a (l ++ bl).length k ∧ (l ++ bl).length ≤ k) ∧ BOwn w' base v' (l ++ bl) ∧ Below base w w' ∧ w.heap.size ≤ w'.heap.size := by
  obtain ⟨i0, hi, hz0, hz1, hz2⟩ := info_parts infoByteR
  by_cases hroom : l.length + bl.length ≤ kc
  · have hfc := run_firstCells_some (P := Tryz.prog) w i0.size bl.length ⟨b, off, none⟩ bl.length cb (bytesV bl) (by rw [bytesV_len, hz1, Nat.mul_one]) (bytesV_at hbl)
    have hst := run_storeCells_cells (P := Tryz.prog) g l.length (bytesV bl) 0 w (fun j hj => by rw [bytesV_len] at hj; exact hf.some _ (by omega)) (fun j hj => by rw [bytesV_len] at hj; exact hf.free _ (by omega)) (bytesV_one bl)
    rw [Nat.add_zero] at hst
    have hst' : (storeCells ⟨g, l.length * i0.size, none⟩ (bytesV bl) 0).run Tryz.prog w = .ok () (w.setCells g l.length (bytesV bl)) := by rw [hz1, Nat.mul_one]; exact hst
    refine ⟨.slice (some ⟨g, 0, none⟩) (l.length + bl.length) kc, w.setCells g l.length (bytesV bl), ?_, ⟨_, _, by rw [List.length_append], by rw [List.length_append]; omega⟩, .inr ⟨g, kc, by rw [List.length_append], hbg, ?_⟩, (below_setCells g _ _ w).2 base hbg, by rw [(below_setCells g _ _ w).1]; exact Nat.le_refl _⟩
    · simp [Builtin.append_, run_underlying Tryz.underlying22, sizeOf, typeInfo, hi, Builtin.lenOf, hroom, hfc, Addr.add_lit, hst']
    · refine ⟨fun i c hc => ?_, fun o ho => by rw [World.frozen?_setCells]; exact hf.free o (by rw [List.length_append] at ho; omega), by rw [(below_setCells g _ _ w).1]; exact hf.lt⟩
      rw [Nat.zero_add]
      by_cases hi0 : i < l.length
      · rw [World.cell?_setCells_out g _ _ _ _ (fun _ _ => .inl hi0)]
        rw [List.getElem?_append_left hi0] at hc
        have := hf.at0 i c hc
        rwa [Nat.zero_add] at this
      · rw [List.getElem?_append_right (by omega)] at hc
        obtain ⟨hlt, hcc⟩ := List.getElem?_eq_some_iff.1 hc
        have hin := World.cell?_setCells_in g (bytesV bl) l.length w (fun j hj => by rw [bytesV_len] at hj; exact hf.some _ (by omega)) (i - l.length) (by rw [bytesV_len]; exact hlt)
        rw [show l.length + (i - l.length) = i from by omega] at hin
        rw [hin]
        simp [bytesV, hcc]
  · have holds : ∀ j u, (bytesV l)[j]? = some u → w.cell? ((⟨g, 0, none⟩ : Addr).add j) = some u := bytesV_at hf.at0
    have hr := run_append_grow (P := Tryz.prog) w 22 ty 5 i0 _ Tryz.underlying22 hi hz0 ⟨g, 0, none⟩ l.length kc (bytesV l) (by rw [bytesV_len, hz1, Nat.mul_one]) holds ⟨b, off, none⟩ bl.length cb (bytesV bl) (by rw [bytesV_len, hz1, Nat.mul_one]) (bytesV_at hbl) (by omega) (by omega) (growslice_fits (by omega) (by rw [hz2]; omega))
    have hge := grownCap_ge w (l.length + bl.length) kc 5
    refine ⟨_, _, hr, ⟨_, _, by rw [List.length_append], by rw [List.length_append]; omega⟩, .inr ⟨w.heap.size, _, by rw [List.length_append], hbw, ?_⟩, ((Below.refl base w).drew).alloc (by exact hbw) _, by simp⟩
    refine ⟨fun i c hc => ?_, fun o ho => ?_, by simp⟩
    · rw [Nat.zero_add]
      show World.cell? (w.alloc _) ⟨w.heap.size, i, none⟩ = _
      rw [World.cell?_alloc_mark]
      have hlt : i < (l ++ bl).length := (List.getElem?_eq_some_iff.1 hc).1
      have e : ((bytesV l).toArray ++ (bytesV bl).toArray) = (bytesV (l ++ bl)).toArray := by simp [bytesV]
      rw [e, Array.getElem?_append_left (by simpa [bytesV_len] using hlt)]
      rw [List.getElem?_toArray]
      unfold bytesV
      rw [List.getElem?_map, hc]; rfl
    · show World.frozen? (w.alloc _) ⟨w.heap.size, o, none⟩ = false
      unfold World.frozen?
      rw [heap_alloc_new]
      simp
theorem wpList_append_bytesC {ops : Array Oper} {rest : List Oper} {o : Oper} {a : Act} {Q : Exit → Act → World → Prop} (w : World) (hgd : o.guard = none) (s x : Operand)
    (ho : o.op = .call { callee := .builtin .append, args := #[s, x], argTypes := #[22, 22] }) (base g kc : Nat) (l : List UInt8) (hs : a.eval s = .slice (some ⟨g, 0, none⟩) l.length kc) (hf : BFree w g l kc) (hbg : base ≤ g) (hbw : base ≤ w.heap.size)
    (b off cb : Nat) (bl : List UInt8) (hx : a.eval x = .slice (some ⟨b, off, none⟩) bl.length cb) (hbl : BAt w b off bl) (hl : l.length + bl.length ≤ 1000000)
    (h : ∀ a' k' w', BOwn w' base (.slice a' (l ++ bl).length k') (l ++ bl) → Below base w w' → w.heap.size ≤ w'.heap.size → (l ++ bl).length ≤ k' → wpList Tryz.prog ops Q rest (a.put o.dst (.slice a' (l ++ bl).length k')) w') :
    wpList Tryz.prog ops Q (o :: rest) a w := by
  refine wpList_plain hgd fun K hK => ?_
  obtain ⟨v', w', hr, ⟨a', k', rfl, hk'⟩, h2, h3, h4⟩ := run_append_bytesC w o.type base g kc l hf hbg hbw b off cb bl hbl hl
  unfold Oper.wp execOp
  simp only [ho, resolve, invoke, builtin, Sem.run_bind, Sem.run_pure, Result.andThen_ok, List.map_toArray, List.map_cons, List.map_nil, hs, hx, hr]
  exact hK _ _ (h a' k' w' h2 h3 h4 hk')
set_option maxRecDepth 100000 in
set_option maxHeartbeats 8000000 in
theorem specPackReq_cap (w : World) (m h p : ByteArray) (a : Option Addr) (cap : Nat) (l : List Hdr) (hl : l.length ≤ 1048576) (hi : HdsIn w a l) :
    Calls Tryz.prog 47 #[.agg #[.string m, .string h, .string p, .slice a l.length cap]] w fun e w' => BGotC (reqC m h p l) (reqB m h p l) w.heap.size e w' ∧ Below w.heap.size w w' := by
  obtain ⟨W, hW⟩ : ∃ W, W = (w.alloc (.cells #[.string m, .string h, .string p, .slice a l.length cap] 26)).alloc (.cells #[.int .i64 0, .slice none 0 0] 29) := ⟨_, rfl⟩
  have HW : Hid (W = (w.alloc (.cells #[.string m, .string h, .string p, .slice a l.length cap] 26)).alloc (.cells #[.int .i64 0, .slice none 0 0] 29)) := hW
  have bW : Below w.heap.size w W := by rw [hW]; exact ((Below.refl _ _).alloc (Nat.le_refl _) _).alloc (by simp) _
  have f0 : Four W w.heap.size (.string m) (.string h) (.string p) (.slice a l.length cap) := by rw [hW]; exact (Four.new _ _ _ _ _ _).keep ((Below.refl _ _).alloc (Nat.le_refl _) _)
  have t0 : Two W (w.heap.size + 1) (.int .i64 0) (.slice none 0 0) := by
    rw [hW]
    have := Two.new (w.alloc (.cells #[.string m, .string h, .string p, .slice a l.length cap] 26)) (.int .i64 0) (.slice none 0 0) 29
    simpa using this
  have C := specReq_any W m h p a cap l hl (hi.keep bW)
  have K0 : Hid (Below w.heap.size w W ∧ Four W w.heap.size (.string m) (.string h) (.string p) (.slice a l.length cap) ∧ Two W (w.heap.size + 1) (.int .i64 0) (.slice none 0 0)) := ⟨bW, f0, t0⟩
  have HI : Hid (∀ X, Below w.heap.size w X → HdsIn X a l) := fun X hb => hi.keep hb
  clear hW bW f0 t0 hi
  have hc3 := K0.out.2.1.c3
  rw [HW.out] at hc3
  go_enter Tryz.func47, Tryz.ntmps47
  go_wp2_with fail
  rw [← HW.out]
  refine C.mono ?_
  rintro e w1 ⟨rfl, hb1⟩
  have K1 : Hid (Below w.heap.size w w1 ∧ Four w1 w.heap.size (.string m) (.string h) (.string p) (.slice a l.length cap) ∧ Two w1 (w.heap.size + 1) (.int .i64 0) (.slice none 0 0)) := ⟨K0.out.1.trans (hb1.mono K0.out.1.size), K0.out.2.1.keep hb1, K0.out.2.2.keep hb1⟩
  clear C hb1 K0 HW hc3
  by_cases c0 : reqC m h p l = 0
  · have HB0 : Hid (reqB m h p l = reqL m h p l) := by show _ = _; rw [reqB, if_pos c0]
    obtain ⟨y1, y2, y3, y4⟩ := reqC_zero c0
    obtain ⟨z1, z2, z3⟩ := method_size y1
    obtain ⟨s1, s2⟩ := heads_sizes y2
    have HP : Hid (∀ X, Below w.heap.size w X → Calls Tryz.prog 89 #[.slice a l.length cap] X fun e w' => e = .returned (.string ⟨(packL l).toArray⟩) ∧ Below X.heap.size X w') := fun X hb => l4Pack_any X a cap l (by omega) (fun i r hr => by have := s2 i r hr; omega) (HI.out X hb)
    have hpl := packL_len y2
    obtain ⟨t, ht⟩ : ∃ t : ByteArray, t = ⟨(packL l).toArray⟩ := ⟨_, rfl⟩
    have hts : t.size ≤ 6000 := by rw [ht]; show (packL l).toArray.size ≤ 6000; rw [List.size_toArray]; omega
    have HT : Hid ((reqText m h p t).data.toList = reqL m h p l) := by show _ = _; rw [ht]; exact reqText_list m h p l
    rw [← ht] at HP
    have HTX : Hid (reqText m h p t = m ++ ⟨#[32]⟩ ++ p ++ ⟨#[32, 72, 84, 84, 80, 47, 49, 46, 49, 13, 10, 72, 111, 115, 116, 58, 32]⟩ ++ h ++ ⟨#[13, 10]⟩ ++ t ++ ⟨#[13, 10]⟩) := rfl
    rw [c0]
    have HC0 : Hid (reqC m h p l = 0) := c0
    clear ht y1 y2 y3 y4 s1 s2 hpl c0 HI
    generalize l.length = n at *
    have BW : Hid (Below w1.heap.size w1 w1.drew) := (Below.refl _ _).drew
    have HKS : Hid (∀ X, Below w1.heap.size w1 X → X.cell? ⟨w.heap.size, 0, none⟩ = some (.string m) ∧ X.cell? ⟨w.heap.size, 1, none⟩ = some (.string h) ∧ X.cell? ⟨w.heap.size, 2, none⟩ = some (.string p) ∧ X.cell? ⟨w.heap.size, 3, none⟩ = some (.slice a n cap)) := fun X hb => ⟨(K1.out.2.1.keep hb).c0, (K1.out.2.1.keep hb).c1, (K1.out.2.1.keep hb).c2, (K1.out.2.1.keep hb).c3⟩
    have HST : Hid (∀ (X : World) v0 v1, Below w1.heap.size w1 X → (fun X : World => X.cell? ⟨w.heap.size, 0, none⟩ = some (.string m) ∧ X.cell? ⟨w.heap.size, 1, none⟩ = some (.string h) ∧ X.cell? ⟨w.heap.size, 2, none⟩ = some (.string p) ∧ X.cell? ⟨w.heap.size, 3, none⟩ = some (.slice a n cap)) ((X.setCell ⟨w.heap.size + 1, 0, none⟩ v0).setCell ⟨w.heap.size + 1, 1, none⟩ v1)) := fun X v0 v1 hb => by
      have ne : ∀ i o : Nat, (⟨w.heap.size + 1, i, none⟩ : Addr) ≠ ⟨w.heap.size, o, none⟩ := fun i o e => by have := congrArg Addr.block e; simp only at this; omega
      have kk : ∀ o, ((X.setCell ⟨w.heap.size + 1, 0, none⟩ v0).setCell ⟨w.heap.size + 1, 1, none⟩ v1).cell? ⟨w.heap.size, o, none⟩ = X.cell? ⟨w.heap.size, o, none⟩ := fun o => by rw [World.cell?_setCell_other _ _ _ _ (ne _ _), World.cell?_setCell_other _ _ _ _ (ne _ _)]
      simp only [kk]
      exact ⟨(K1.out.2.1.keep hb).c0, (K1.out.2.1.keep hb).c1, (K1.out.2.1.keep hb).c2, (K1.out.2.1.keep hb).c3⟩
    obtain ⟨x1, hx1⟩ : ∃ x : ByteArray, x = m ++ ⟨#[32]⟩ := ⟨_, rfl⟩
    have sx1 : x1.size = (m).size + (⟨#[32]⟩ : ByteArray).size := by rw [hx1, ByteArray.size_append]
    obtain ⟨x2, hx2⟩ : ∃ x : ByteArray, x = x1 ++ p := ⟨_, rfl⟩
    have sx2 : x2.size = (x1).size + (p : ByteArray).size := by rw [hx2, ByteArray.size_append]
    obtain ⟨x3, hx3⟩ : ∃ x : ByteArray, x = x2 ++ ⟨#[32, 72, 84, 84, 80, 47, 49, 46, 49, 13, 10, 72, 111, 115, 116, 58, 32]⟩ := ⟨_, rfl⟩
    have sx3 : x3.size = (x2).size + (⟨#[32, 72, 84, 84, 80, 47, 49, 46, 49, 13, 10, 72, 111, 115, 116, 58, 32]⟩ : ByteArray).size := by rw [hx3, ByteArray.size_append]
    obtain ⟨x4, hx4⟩ : ∃ x : ByteArray, x = x3 ++ h := ⟨_, rfl⟩
    have sx4 : x4.size = (x3).size + (h : ByteArray).size := by rw [hx4, ByteArray.size_append]
    obtain ⟨x5, hx5⟩ : ∃ x : ByteArray, x = x4 ++ ⟨#[13, 10]⟩ := ⟨_, rfl⟩
    have sx5 : x5.size = (x4).size + (⟨#[13, 10]⟩ : ByteArray).size := by rw [hx5, ByteArray.size_append]
    obtain ⟨x6, hx6⟩ : ∃ x : ByteArray, x = x5 ++ t := ⟨_, rfl⟩
    have sx6 : x6.size = (x5).size + (t : ByteArray).size := by rw [hx6, ByteArray.size_append]
    obtain ⟨x7, hx7⟩ : ∃ x : ByteArray, x = x6 ++ ⟨#[13, 10]⟩ := ⟨_, rfl⟩
    have sx7 : x7.size = (x6).size + (⟨#[13, 10]⟩ : ByteArray).size := by rw [hx7, ByteArray.size_append]
    have lit1 : (⟨#[32]⟩ : ByteArray).size = 1 := rfl
    have lit2 : (⟨#[13, 10]⟩ : ByteArray).size = 2 := rfl
    have lit3 : (⟨#[32, 72, 84, 84, 80, 47, 49, 46, 49, 13, 10, 72, 111, 115, 116, 58, 32]⟩ : ByteArray).size = 17 := rfl
    have add1 : ∀ X, (Op.stringOp .add m ⟨#[32]⟩).run Tryz.prog X = .ok (.string x1) X := fun X => by rw [hx1]; exact run_string_add_sum X _ _ (by omega)
    have add2 : ∀ X, (Op.stringOp .add x1 p).run Tryz.prog X = .ok (.string x2) X := fun X => by rw [hx2]; exact run_string_add_sum X _ _ (by omega)
    have add3 : ∀ X, (Op.stringOp .add x2 ⟨#[32, 72, 84, 84, 80, 47, 49, 46, 49, 13, 10, 72, 111, 115, 116, 58, 32]⟩).run Tryz.prog X = .ok (.string x3) X := fun X => by rw [hx3]; exact run_string_add_sum X _ _ (by omega)
    have add4 : ∀ X, (Op.stringOp .add x3 h).run Tryz.prog X = .ok (.string x4) X := fun X => by rw [hx4]; exact run_string_add_sum X _ _ (by omega)
    have add5 : ∀ X, (Op.stringOp .add x4 ⟨#[13, 10]⟩).run Tryz.prog X = .ok (.string x5) X := fun X => by rw [hx5]; exact run_string_add_sum X _ _ (by omega)
    have add6 : ∀ X, (Op.stringOp .add x5 t).run Tryz.prog X = .ok (.string x6) X := fun X => by rw [hx6]; exact run_string_add_sum X _ _ (by omega)
    have add7 : ∀ X, (Op.stringOp .add x6 ⟨#[13, 10]⟩).run Tryz.prog X = .ok (.string x7) X := fun X => by rw [hx7]; exact run_string_add_sum X _ _ (by omega)
    have HX7 : Hid (x7 = reqText m h p t) := by show _ = _; rw [hx7, hx6, hx5, hx4, hx3, hx2, hx1]; rfl
    clear hx1 hx2 hx3 hx4 hx5 hx6 hx7 HTX lit1 lit2 lit3
    clear sx1 sx2 sx3 sx4 sx5 sx6 sx7 z1 z2 z3 hts
    go_wp2_with fail
    go_region_held (fun X => X.cell? ⟨w.heap.size, 0, none⟩ = some (.string m) ∧ X.cell? ⟨w.heap.size, 1, none⟩ = some (.string h) ∧ X.cell? ⟨w.heap.size, 2, none⟩ = some (.string p) ∧ X.cell? ⟨w.heap.size, 3, none⟩ = some (.slice a n cap))
      (first | exact HST.out _ _ _ BX.out | exact HKS.out _ BX.out | exact HKS.out _ BA.out | exact HKS.out _ BW.out)
      (first
      | (go_at_call 89; refine (HP.out _ (K1.out.1.trans (BW.out.mono K1.out.1.size))).mono ?_; rintro e wa ⟨rfl, hba⟩; have BA : Hid (Below w1.heap.size w1 wa) := BW.out.trans (hba.mono BW.out.size); clear hba; obtain ⟨C, kc, hcv, hbm2⟩ := bytes_of_text2 wa x7; have hbm := bfree_mine hbm2; have HKC : Hid (x7.size ≤ kc) := bfree_size hbm2; clear hbm2; obtain ⟨X, hX⟩ : ∃ X, X = wa.drew.alloc (.cells C 5 (C.size, C.size + 1)) := ⟨_, rfl⟩; have HX : Hid (Below wa.heap.size wa X) := (by rw [hX]; exact ((Below.refl _ _).drew).alloc (Nat.le_refl _) _); rw [← hX] at hcv hbm; have HM : Hid (BMine X wa.heap.size x7.data.toList) := hbm; clear hbm hX; have BX : Hid (Below w1.heap.size w1 X) := BA.out.trans (HX.out.mono BA.out.size); obtain ⟨r0, r1, rf, _⟩ := K1.out.2.2.keep BX.out; have rf0 := rf 0; have rf1 := rf 1; clear rf))
    all_goals
      (go_wp2_with fail
       have T2 := two_put (v0 := .int .i64 0) (v1 := .slice (some ⟨wa.heap.size, 0, none⟩) x7.size kc) (K1.out.2.2.keep BX.out)
       have hw1 : w.heap.size + 1 < w1.heap.size := K1.out.2.2.lt
       have bx0 := K1.out.1.trans (BX.out.mono K1.out.1.size)
       have e7 : reqL m h p l = x7.data.toList := by rw [HX7.out]; exact HT.out.symm
       refine bodyPost_ret (v := .agg #[.int .i64 0, .slice (some ⟨wa.heap.size, 0, none⟩) x7.size kc]) (by simp [results, Tryz.results47, go_sem, T2.c0, T2.c1]) rfl ⟨⟨_, _, _, (by rw [HC0.out]), .inr ⟨wa.heap.size, kc, ?_, ?_, ?_⟩, HKC.out⟩, (bx0.setCell (by simp) _).setCell (by simp) _⟩
       · rw [HB0.out, e7]; congr 1
       · exact Nat.le_trans K1.out.1.size BA.out.size
       · rw [HB0.out, e7]
         exact HM.out.put _ _ (by have := BA.out.size; omega))
  · have HB0 : Hid (reqB m h p l = []) := by show _ = _; rw [reqB, if_neg c0]
    have HF : Hid (∀ e w', e = .returned (.agg #[.int .i64 (reqC m h p l), .slice none 0 0]) → BGotC (reqC m h p l) (reqB m h p l) w.heap.size e w') := fun e w' he => by subst he; rw [HB0.out]; exact BGotC.nil _ _ _
    obtain ⟨t0, t1, tf, _⟩ := K1.out.2.2
    have tf0 := tf 0
    have tf1 := tf 1
    have HB1 : Hid (Below w.heap.size w w1) := K1.out.1
    have T2 : Hid (Two ((w1.setCell ⟨w.heap.size + 1, 0, none⟩ (.int .i64 (reqC m h p l))).setCell ⟨w.heap.size + 1, 1, none⟩ (.slice none 0 0)) (w.heap.size + 1) (.int .i64 (reqC m h p l)) (.slice none 0 0)) := two_put K1.out.2.2
    clear K1 HI HB0 tf
    obtain ⟨c, hcc⟩ : ∃ c, reqC m h p l = c := ⟨_, rfl⟩
    obtain ⟨bb, hbb⟩ : ∃ bb, reqB m h p l = bb := ⟨_, rfl⟩
    have HCC : Hid (reqC m h p l = c ∧ reqB m h p l = bb) := ⟨hcc, hbb⟩
    rw [hcc] at HF T2 c0 ⊢
    rw [hbb] at HF
    clear hcc hbb
    generalize l.length = n at *
    go_wp2_with fail
    exact bodyPost_ret (v := .agg #[.int .i64 c, .slice none 0 0]) (by simp [results, Tryz.results47, go_sem, T2.out.c0, T2.out.c1]) rfl ⟨by rw [HCC.out.1, HCC.out.2]; exact HF.out _ _ rfl, (HB1.out.setCell (by simp) _).setCell (by simp) _⟩
set_option maxRecDepth 100000 in
set_option maxHeartbeats 8000000 in
theorem specPackResp_cap (w : World) (s : Int) (a : Option Addr) (cap : Nat) (l : List Hdr) (db doff bc : Nat) (bl : List UInt8) (hl : l.length ≤ 1048576) (hbl : bl.length ≤ 1048576) (hi : HdsIn w a l) (hb : BAt w db doff bl) :
    Calls Tryz.prog 51 #[.agg #[.int .i64 s, .slice a l.length cap, .slice (some ⟨db, doff, none⟩) bl.length bc]] w fun e w' => BGotC (respC s l bl.length) (respB s l bl) w.heap.size e w' ∧ Below w.heap.size w w' := by
  obtain ⟨W, hW⟩ : ∃ W, W = (w.alloc (.cells #[.int .i64 s, .slice a l.length cap, .slice (some ⟨db, doff, none⟩) bl.length bc] 32)).alloc (.cells #[.int .i64 0, .slice none 0 0] 29) := ⟨_, rfl⟩
  have HW : Hid (W = (w.alloc (.cells #[.int .i64 s, .slice a l.length cap, .slice (some ⟨db, doff, none⟩) bl.length bc] 32)).alloc (.cells #[.int .i64 0, .slice none 0 0] 29)) := hW
  have bW : Below w.heap.size w W := by rw [hW]; exact ((Below.refl _ _).alloc (Nat.le_refl _) _).alloc (by simp) _
  have f0 : Three W w.heap.size (.int .i64 s) (.slice a l.length cap) (.slice (some ⟨db, doff, none⟩) bl.length bc) := by rw [hW]; exact (Three.new _ _ _ _ _).keep ((Below.refl _ _).alloc (Nat.le_refl _) _)
  have t0 : Two W (w.heap.size + 1) (.int .i64 0) (.slice none 0 0) := by
    rw [hW]
    have := Two.new (w.alloc (.cells #[.int .i64 s, .slice a l.length cap, .slice (some ⟨db, doff, none⟩) bl.length bc] 32)) (.int .i64 0) (.slice none 0 0) 29
    simpa using this
  have C := specResp_any W s a cap l (some ⟨db, doff, none⟩) bl.length bc hl hbl (hi.keep bW)
  have K0 : Hid (Below w.heap.size w W ∧ Three W w.heap.size (.int .i64 s) (.slice a l.length cap) (.slice (some ⟨db, doff, none⟩) bl.length bc) ∧ Two W (w.heap.size + 1) (.int .i64 0) (.slice none 0 0)) := ⟨bW, f0, t0⟩
  have HI : Hid (∀ X, Below w.heap.size w X → HdsIn X a l ∧ BAt X db doff bl) := fun X hx => ⟨hi.keep hx, hb.keep hx⟩
  clear hW bW f0 t0 hi hb
  have hc1 := K0.out.2.1.c1
  have hc2 := K0.out.2.1.c2
  rw [HW.out] at hc1 hc2
  go_enter Tryz.func51, Tryz.ntmps51
  go_wp2_with fail
  rw [← HW.out]
  refine C.mono ?_
  rintro e w1 ⟨rfl, hb1⟩
  have K1 : Hid (Below w.heap.size w w1 ∧ Three w1 w.heap.size (.int .i64 s) (.slice a l.length cap) (.slice (some ⟨db, doff, none⟩) bl.length bc) ∧ Two w1 (w.heap.size + 1) (.int .i64 0) (.slice none 0 0)) := ⟨K0.out.1.trans (hb1.mono K0.out.1.size), K0.out.2.1.keep hb1, K0.out.2.2.keep hb1⟩
  clear C hb1 K0 HW hc1 hc2
  by_cases c0 : respC s l bl.length = 0
  · have HB0 : Hid (respB s l bl = respL s l bl) := by show _ = _; rw [respB, if_pos c0]
    obtain ⟨y1, y2, y3, y4⟩ := respC_zero c0
    have hpl := packL_len y3
    obtain ⟨s1, s2⟩ := heads_sizes y3
    obtain ⟨t, ht⟩ : ∃ t : ByteArray, t = ⟨(packL l).toArray⟩ := ⟨_, rfl⟩
    have hts : t.size ≤ 6000 := by
      rw [ht]; show (packL l).toArray.size ≤ 6000; rw [List.size_toArray]; omega
    obtain ⟨d, hd⟩ : ∃ d : ByteArray, d = num.numT s := ⟨_, rfl⟩
    have hds : d.size ≤ 100 := by rw [hd]; exact numT_small s y1 y2
    have HD : Hid (∀ X, Calls Tryz.prog 90 #[.int .i64 s] X fun e w' => e = .returned (.string d) ∧ Below X.heap.size X w') := fun X => by rw [hd]; exact num.l1Digits_all s (by omega) (by omega) X
    have HP : Hid (∀ X, Below w.heap.size w X → Calls Tryz.prog 89 #[.slice a l.length cap] X fun e w' => e = .returned (.string t) ∧ Below X.heap.size X w') := fun X hb => by rw [ht]; exact l4Pack_any X a cap l (by omega) (fun i r hr => by have := s2 i r hr; omega) (HI.out X hb).1
    obtain ⟨x1, hx1⟩ : ∃ x : ByteArray, x = ⟨#[72, 84, 84, 80, 47, 49, 46, 49, 32]⟩ ++ d := ⟨_, rfl⟩
    have sx1 : x1.size = (⟨#[72, 84, 84, 80, 47, 49, 46, 49, 32]⟩ : ByteArray).size + (d : ByteArray).size := by rw [hx1, ByteArray.size_append]
    obtain ⟨x2, hx2⟩ : ∃ x : ByteArray, x = x1 ++ ⟨#[13, 10]⟩ := ⟨_, rfl⟩
    have sx2 : x2.size = (x1 : ByteArray).size + (⟨#[13, 10]⟩ : ByteArray).size := by rw [hx2, ByteArray.size_append]
    obtain ⟨x3, hx3⟩ : ∃ x : ByteArray, x = x2 ++ t := ⟨_, rfl⟩
    have sx3 : x3.size = (x2 : ByteArray).size + (t : ByteArray).size := by rw [hx3, ByteArray.size_append]
    obtain ⟨x4, hx4⟩ : ∃ x : ByteArray, x = x3 ++ ⟨#[13, 10]⟩ := ⟨_, rfl⟩
    have sx4 : x4.size = (x3 : ByteArray).size + (⟨#[13, 10]⟩ : ByteArray).size := by rw [hx4, ByteArray.size_append]
    have lit2 : (⟨#[13, 10]⟩ : ByteArray).size = 2 := rfl
    have lit3 : (⟨#[72, 84, 84, 80, 47, 49, 46, 49, 32]⟩ : ByteArray).size = 9 := rfl
    have add1 : ∀ X, (Op.stringOp .add ⟨#[72, 84, 84, 80, 47, 49, 46, 49, 32]⟩ d).run Tryz.prog X = .ok (.string x1) X := fun X => by rw [hx1]; exact run_string_add_sum X _ _ (by omega)
    have add2 : ∀ X, (Op.stringOp .add x1 ⟨#[13, 10]⟩).run Tryz.prog X = .ok (.string x2) X := fun X => by rw [hx2]; exact run_string_add_sum X _ _ (by omega)
    have add3 : ∀ X, (Op.stringOp .add x2 t).run Tryz.prog X = .ok (.string x3) X := fun X => by rw [hx3]; exact run_string_add_sum X _ _ (by omega)
    have add4 : ∀ X, (Op.stringOp .add x3 ⟨#[13, 10]⟩).run Tryz.prog X = .ok (.string x4) X := fun X => by rw [hx4]; exact run_string_add_sum X _ _ (by omega)
    have HX4 : Hid (x4.data.toList = respH s l) := by
      show _ = _
      rw [hx4, hx3, hx2, hx1, hd, ht]
      simp only [respH, verL, happ_list]
      simp
    have hx4s : x4.data.toList.length ≤ 7000 := by
      have : x4.data.toList.length = x4.size := by simp
      omega
    have HLL : Hid (x4.size = x4.data.toList.length) := by show _ = _; simp
    clear hx1 hx2 hx3 hx4 lit2 lit3 sx1 sx2 sx3 sx4 hts hds hd ht s1 s2 hpl
    rw [c0]
    have HC0 : Hid (respC s l bl.length = 0) := c0
    clear c0 y3
    have BW : Hid (Below w1.heap.size w1 w1.drew) := (Below.refl _ _).drew
    have HKS : Hid (∀ X, Below w1.heap.size w1 X → X.cell? ⟨w.heap.size, 0, none⟩ = some (.int .i64 s) ∧ X.cell? ⟨w.heap.size, 1, none⟩ = some (.slice a l.length cap) ∧ X.cell? ⟨w.heap.size, 2, none⟩ = some (.slice (some ⟨db, doff, none⟩) bl.length bc)) := fun X hb => ⟨(K1.out.2.1.keep hb).c0, (K1.out.2.1.keep hb).c1, (K1.out.2.1.keep hb).c2⟩
    go_wp2_with fail
    go_cut [4] from 11 to 21 (fun s4 wx => ∃ (g kc : Nat), s4 = .slice (some ⟨g, 0, none⟩) x4.size kc ∧ BFree wx g x4.data.toList kc ∧ w1.heap.size ≤ g ∧ Below w1.heap.size w1 wx)
    case first =>
      go_region_held (fun X => X.cell? ⟨w.heap.size, 0, none⟩ = some (.int .i64 s) ∧ X.cell? ⟨w.heap.size, 1, none⟩ = some (.slice a l.length cap) ∧ X.cell? ⟨w.heap.size, 2, none⟩ = some (.slice (some ⟨db, doff, none⟩) bl.length bc))
        (first | exact HKS.out _ BX.out | exact HKS.out _ BB.out | exact HKS.out _ BA.out | exact HKS.out _ BW.out)
        (first
        | (go_at_call 90; refine (HD.out _).mono ?_; rintro e wa ⟨rfl, hba⟩; have BA : Hid (Below w1.heap.size w1 wa) := BW.out.trans (hba.mono BW.out.size); clear hba)
        | (go_at_call 89; refine (HP.out _ (K1.out.1.trans (BA.out.mono K1.out.1.size))).mono ?_; rintro e wb ⟨rfl, hbb⟩; have BB : Hid (Below w1.heap.size w1 wb) := BA.out.trans (hbb.mono BA.out.size); clear hbb; obtain ⟨C, kc, hcv, hbm⟩ := bytes_of_text2 wb x4; obtain ⟨X, hX⟩ : ∃ X, X = wb.drew.alloc (.cells C 5 (C.size, C.size + 1)) := ⟨_, rfl⟩; have HX : Hid (Below wb.heap.size wb X) := (by rw [hX]; exact ((Below.refl _ _).drew).alloc (Nat.le_refl _) _); rw [← hX] at hcv hbm; have HM : Hid (BFree X wb.heap.size x4.data.toList kc) := hbm; clear hbm hX; have BX : Hid (Below w1.heap.size w1 X) := BB.out.trans (HX.out.mono BB.out.size)))
      all_goals (go_wp2_with fail; go_meet; exact ⟨_, _, rfl, HM.out, BB.out.size, BX.out⟩)
    case rest =>
    obtain ⟨g, kc, rfl, hfr, hgl, hbx⟩ := hcut
    have K3 : Hid (Below w.heap.size w wc ∧ Three wc w.heap.size (.int .i64 s) (.slice a l.length cap) (.slice (some ⟨db, doff, none⟩) bl.length bc) ∧ Two wc (w.heap.size + 1) (.int .i64 0) (.slice none 0 0)) := ⟨K1.out.1.trans (hbx.mono K1.out.1.size), K1.out.2.1.keep hbx, K1.out.2.2.keep hbx⟩
    have HFR : Hid (BFree wc g x4.data.toList kc ∧ w1.heap.size ≤ g ∧ w.heap.size + 1 < w1.heap.size) := ⟨hfr, hgl, K1.out.2.2.lt⟩
    clear hfr hgl hbx HKS BW HD HP K1 add1 add2 add3 add4
    generalize wc = w3 at *
    have q2 := K3.out.2.1.c2
    rw [HLL.out]
    have HBL : Hid (BAt w3 db doff bl) := (HI.out _ K3.out.1).2
    go_wp2_with (at_builtin; refine wpList_append_bytesC _ rfl (.tmp 22) (.tmp 24) rfl (w.heap.size + 2) g kc x4.data.toList rfl HFR.out.1 (by have := HFR.out; omega) (by have := K3.out.2.2.lt; omega) db doff bc bl rfl HBL.out (by omega) ?_; intro a4 k4 w4 ho4 hb4 hs4 hk4; have HK4 : Hid ((x4.data.toList ++ bl).length ≤ k4) := hk4; clear hk4; have K4 : Hid (Below w.heap.size w w4 ∧ Two w4 (w.heap.size + 1) (.int .i64 0) (.slice none 0 0) ∧ BOwn w4 (w.heap.size + 2) (.slice a4 (x4.data.toList ++ bl).length k4) (x4.data.toList ++ bl)) := ⟨K3.out.1.trans (hb4.mono (by omega)), ⟨(by rw [hb4.cell (p := ⟨w.heap.size + 1, 0, none⟩) (Nat.lt_succ_self _)]; exact K3.out.2.2.c0), (by rw [hb4.cell (p := ⟨w.heap.size + 1, 1, none⟩) (Nat.lt_succ_self _)]; exact K3.out.2.2.c1), (fun o => by rw [hb4.frozen (p := ⟨w.heap.size + 1, o, none⟩) (Nat.lt_succ_self _)]; exact K3.out.2.2.fr o), Nat.lt_of_lt_of_le K3.out.2.2.lt hs4⟩, ho4⟩; obtain ⟨r0, r1, rf, _⟩ := K4.out.2.1; have rf0 := rf 0; have rf1 := rf 1; clear rf ho4 hb4 hs4 q2; generalize (x4.data.toList ++ bl).length = nn at *)
    have T2 := two_put (v0 := .int .i64 0) (v1 := .slice a4 nn k4) K4.out.2.1
    refine bodyPost_ret (v := .agg #[.int .i64 0, .slice a4 nn k4]) (by simp [results, Tryz.results51, go_sem, T2.c0, T2.c1]) rfl ⟨⟨_, _, _, (by rw [HC0.out]), ?_, HK4.out⟩, (K4.out.1.setCell (by simp) _).setCell (by simp) _⟩
    rw [HB0.out, show respL s l bl = x4.data.toList ++ bl from by rw [HX4.out]; rfl]
    rcases K4.out.2.2 with ⟨e, he⟩ | ⟨g', k', e, hg', hm'⟩
    · exact .inl ⟨e, he⟩
    · exact .inr ⟨g', k', e, by omega, hm'.put _ _ (by omega)⟩
  · have HB0 : Hid (respB s l bl = []) := by show _ = _; rw [respB, if_neg c0]
    have HF : Hid (∀ e w', e = .returned (.agg #[.int .i64 (respC s l bl.length), .slice none 0 0]) → BGotC (respC s l bl.length) (respB s l bl) w.heap.size e w') := fun e w' he => by subst he; rw [HB0.out]; exact BGotC.nil _ _ _
    obtain ⟨t0, t1, tf, _⟩ := K1.out.2.2
    have tf0 := tf 0
    have tf1 := tf 1
    have HB1 : Hid (Below w.heap.size w w1) := K1.out.1
    have T2 : Hid (Two ((w1.setCell ⟨w.heap.size + 1, 0, none⟩ (.int .i64 (respC s l bl.length))).setCell ⟨w.heap.size + 1, 1, none⟩ (.slice none 0 0)) (w.heap.size + 1) (.int .i64 (respC s l bl.length)) (.slice none 0 0)) := two_put K1.out.2.2
    clear K1 HI HB0 tf
    obtain ⟨c, hcc⟩ : ∃ c, respC s l bl.length = c := ⟨_, rfl⟩
    obtain ⟨bb, hbb⟩ : ∃ bb, respB s l bl = bb := ⟨_, rfl⟩
    have HCC : Hid (respC s l bl.length = c ∧ respB s l bl = bb) := ⟨hcc, hbb⟩
    rw [hcc] at HF T2 c0 ⊢
    rw [hbb] at HF
    clear hcc hbb
    generalize l.length = n at *
    go_wp2_with fail
    exact bodyPost_ret (v := .agg #[.int .i64 c, .slice none 0 0]) (by simp [results, Tryz.results51, go_sem, T2.out.c0, T2.out.c1]) rfl ⟨by rw [HCC.out.1, HCC.out.2]; exact HF.out _ _ rfl, (HB1.out.setCell (by simp) _).setCell (by simp) _⟩
end Go.Proofs.YtonnggelpjjmmaaGreatDoor
/-
  Head lines that were packed are read back, plainly. No Go in sight.
-/
namespace Go.Proofs.YtonnggelpjjmmaaGreatDoor
theorem trim_space {v : List UInt8} (h : Lib.trimS v [32, 9] = v) : Lib.trimS (32 :: v) [32, 9] = v := by
  unfold Lib.trimS Lib.trimLeftS Lib.trimRightS at *
  have p32 : ([32, 9] : List UInt8).contains 32 = true := by decide
  generalize hp : (fun x => ([32, 9] : List UInt8).contains x) = p at *
  have q32 : p 32 = true := by rw [← hp]; exact p32
  have l1 : ((v.reverse.dropWhile p).reverse.dropWhile p).length ≤ (v.reverse.dropWhile p).reverse.length := (List.dropWhile_sublist p).length_le
  have l2 : (v.reverse.dropWhile p).length ≤ v.reverse.length := (List.dropWhile_sublist p).length_le
  rw [h] at l1
  rw [List.length_reverse] at l1
  have e1 : v.reverse.dropWhile p = v.reverse := (List.dropWhile_sublist p).eq_of_length (by rw [List.length_reverse] at l2 ⊢; omega)
  rw [e1, List.reverse_reverse] at h
  cases hv : v.reverse with
  | nil =>
    have : v = [] := by simpa using hv
    subst this
    simp [q32]
  | cons x t =>
    rw [hv] at e1
    have hx : p x = false := by
      cases hpx : p x with
      | false => rfl
      | true =>
        rw [List.dropWhile_cons_of_pos hpx] at e1
        have := (List.dropWhile_sublist p (l := t)).length_le
        rw [e1, List.length_cons] at this
        omega
    have e2 : (32 :: v).reverse.dropWhile p = (32 :: v).reverse := by
      rw [List.reverse_cons, hv, List.cons_append, List.dropWhile_cons_of_neg (by rw [hx]; decide)]
    rw [e2, List.reverse_reverse, List.dropWhile_cons_of_pos q32]
    exact h
theorem crAt_line : ∀ (b r : List UInt8), (∀ c ∈ b, c ≠ 13) → crAt (b ++ 13 :: 10 :: r) = b.length
  | [], r, _ => by simp [crAt]
  | c :: b, r, h => by
    have ih := crAt_line b r (fun c hc => h c (by simp [hc]))
    obtain ⟨d, t, e⟩ : ∃ d t, b ++ 13 :: 10 :: r = d :: t := by cases b <;> simp
    rw [List.cons_append, e, crAt, if_neg (fun x => h c (by simp) x.1), ← e, ih]
    simp only [List.length_cons]; omega
theorem clAt_line : ∀ (n t : List UInt8), (∀ c ∈ n, c ≠ 58) → clAt (n ++ 58 :: t) = n.length
  | [], t, _ => by simp [clAt]
  | c :: n, t, h => by
    have ih := clAt_line n t (fun c hc => h c (by simp [hc]))
    rw [List.cons_append, clAt, if_neg (h c (by simp)), ih]
    simp only [List.length_cons]; omega
theorem word_mem {s : ByteArray} (h : wordS s = true) : ∀ c ∈ s.data.toList, c ≠ 58 ∧ c ≠ 13 := by
  have h2 : allW s.data.toList = true := by
    simp only [wordS, Bool.and_eq_true] at h
    exact h.2
  intro c hc
  have := List.all_eq_true.1 h2 c hc
  refine ⟨fun e => ?_, fun e => ?_⟩ <;> subst e <;> revert this <;> decide +kernel
theorem plain_mem {l : List UInt8} (h : plainL l = true) : ∀ c ∈ l, c ≠ 13 := by
  intro c hc e
  have := List.all_eq_true.1 h c hc
  subst e
  revert this
  decide
theorem lineOf_back {r : Hdr} (h : faultH r = 0) : lineOf (r.name.data.toList ++ 58 :: 32 :: r.value.data.toList) = r := by
  obtain ⟨hw, _, _, ht⟩ := faultH_zero h
  have hc := clAt_line r.name.data.toList (32 :: r.value.data.toList) (fun c hc => (word_mem hw c hc).1)
  unfold lineOf
  rw [hc, List.take_left]
  have e2 : (r.name.data.toList ++ 58 :: 32 :: r.value.data.toList).drop (r.name.data.toList.length + 1) = 32 :: r.value.data.toList := by
    rw [← List.drop_drop, List.drop_left]; rfl
  rw [e2]
  obtain ⟨n, v⟩ := r
  simp only at *
  have hn : hmk n.data.toList = n := (hof_list rfl).symm
  have hvv : trimT (hmk (32 :: v.data.toList)) = v := by
    have hv : Lib.trimS v.data.toList [32, 9] = v.data.toList := by
      have := congrArg (fun b : ByteArray => b.data.toList) ht
      simpa [trimT] using this
    unfold trimT
    rw [hmk_list, trim_space hv]
  rw [hn, hvv]
theorem read_pack : ∀ l : List Hdr, (∀ r ∈ l, faultH r = 0) → readT (packL l) = some l
  | [], _ => readT_nil
  | r :: l, h => by
    have ih := read_pack l (fun q hq => h q (by simp [hq]))
    have h0 := h r (by simp)
    obtain ⟨hw, hz, hp, ht⟩ := faultH_zero h0
    have hb := lineOf_back h0
    have hcl := clAt_line r.name.data.toList (32 :: r.value.data.toList) (fun c hc => (word_mem hw c hc).1)
    have e : packL (r :: l) = (r.name.data.toList ++ 58 :: 32 :: r.value.data.toList) ++ 13 :: 10 :: packL l := by simp [packL, lineL]
    have h13 : ∀ c ∈ r.name.data.toList ++ 58 :: 32 :: r.value.data.toList, c ≠ 13 := by
      intro c hc
      simp only [List.mem_append, List.mem_cons] at hc
      rcases hc with hc | rfl | rfl | hc
      · exact (word_mem hw c hc).2
      · decide
      · decide
      · exact plain_mem hp c hc
    have hlt : clAt (r.name.data.toList ++ 58 :: 32 :: r.value.data.toList) < (r.name.data.toList ++ 58 :: 32 :: r.value.data.toList).length := by rw [hcl]; simp only [List.length_append, List.length_cons]; omega
    rw [e]
    generalize r.name.data.toList ++ 58 :: 32 :: r.value.data.toList = b at *
    have hc := crAt_line b (packL l) h13
    have t1 : (b ++ 13 :: 10 :: packL l).take b.length = b := List.take_left
    have t2 : (b ++ 13 :: 10 :: packL l).drop (b.length + 2) = packL l := by rw [← List.drop_drop, List.drop_left]; rfl
    rw [readT_take (by rw [hc]; simp only [List.length_append, List.length_cons]; omega) (by rw [hc, t1]; exact hlt), hc, t1, t2, ih, hb]
    rfl
theorem packL_len4 : ∀ l : List Hdr, (∀ r ∈ l, faultH r = 0) → (packL l).length ≤ l.length * 268
  | [], _ => by simp [packL]
  | r :: l, h => by
    have ih := packL_len4 l (fun q hq => h q (by simp [hq]))
    have := lineL_len (h r (by simp))
    have e : packL (r :: l) = lineL r ++ packL l := by simp [packL]
    rw [e, List.length_append, List.length_cons]
    omega
theorem heads_mem {l : List Hdr} (h : headsC l = 0) : l.length ≤ 20 ∧ ∀ r ∈ l, faultH r = 0 := by
  obtain ⟨h1, h2⟩ := headsC_zero h
  refine ⟨h1, fun r hr => ?_⟩
  obtain ⟨i, hi⟩ := List.mem_iff_getElem?.1 hr
  exact h2 i r hi
theorem heads_of {l : List Hdr} (h1 : l.length ≤ 20) (h2 : ∀ r ∈ l, faultH r = 0) : headsC l = 0 := by rw [headsC_few (by omega)]; exact faultHL_of l h2
theorem pack_read {l : List Hdr} (h : headsC l = 0) : readHC (packT l) = 0 ∧ readHL (packT l) = l := by
  obtain ⟨h1, h2⟩ := heads_mem h
  have hl := packL_len4 l h2
  have hr := read_pack l h2
  rw [packT_ok h]
  exact readH_ok (by show ¬ 6000 < (packL l).toArray.size; rw [List.size_toArray]; omega) hr h
theorem read_heads {s : ByteArray} (h : readHC s = 0) : headsC (readHL s) = 0 := by
  by_cases c : 6000 < s.size
  · rw [(readH_long c).1] at h; omega
  · cases hr : readT s.data.toList with
    | none => rw [(readH_bad c hr).1] at h; omega
    | some L =>
      by_cases hL : headsC L = 0
      · rw [(readH_ok c hr hL).2]; exact hL
      · rw [(readH_fault c hr hL).1] at h; exact absurd h hL
end Go.Proofs.YtonnggelpjjmmaaGreatDoor
/-
  Where a pattern stands first in a text; a text cut there. No Go in sight.
-/
namespace Go.Proofs.YtonnggelpjjmmaaGreatDoor
/-- Where the pattern stands first; the length where it does not. -/
def patAt (p : List UInt8) : List UInt8 → Nat
  | [] => 0
  | x :: r => if p.isPrefixOf (x :: r) = true then 0 else 1 + patAt p r
theorem patAt_le (p : List UInt8) : ∀ l : List UInt8, patAt p l ≤ l.length
  | [] => Nat.le_refl _
  | x :: r => by
    have := patAt_le p r
    rw [patAt]
    split
    · exact Nat.zero_le _
    · simp only [List.length_cons]; omega
theorem patAt_is (p : List UInt8) : ∀ l : List UInt8, patAt p l < l.length → p.isPrefixOf (l.drop (patAt p l)) = true
  | [], h => by simp [patAt] at h
  | x :: r, h => by
    rw [patAt] at h ⊢
    by_cases e : p.isPrefixOf (x :: r) = true
    · rw [if_pos e]; exact e
    · rw [if_neg e] at h ⊢
      have := patAt_is p r (by simp only [List.length_cons] at h; omega)
      rw [show 1 + patAt p r = patAt p r + 1 from by omega, List.drop_succ_cons]
      exact this
theorem patAt_not (p : List UInt8) : ∀ (l : List UInt8) (j : Nat), j < patAt p l → p.isPrefixOf (l.drop j) = false
  | [], j, h => by simp [patAt] at h
  | x :: r, j, h => by
    rw [patAt] at h
    by_cases e : p.isPrefixOf (x :: r) = true
    · rw [if_pos e] at h; omega
    · rw [if_neg e] at h
      cases j with
      | zero => rw [List.drop_zero]; exact Bool.eq_false_iff.2 e
      | succ j => rw [List.drop_succ_cons]; exact patAt_not p r j (by omega)
theorem patAt_of (p : List UInt8) : ∀ (l : List UInt8) (k : Nat), k < l.length → p.isPrefixOf (l.drop k) = true → (∀ j, j < k → p.isPrefixOf (l.drop j) = false) → patAt p l = k
  | [], k, h, _, _ => by simp at h
  | x :: r, 0, _, h, _ => by rw [patAt, if_pos (by simpa using h)]
  | x :: r, k + 1, hk, h, hn => by
    have h0 := hn 0 (by omega)
    rw [patAt, if_neg (by rw [List.drop_zero] at h0; rw [h0]; decide), patAt_of p r k (by simpa using hk) (by simpa using h) (fun j hj => by simpa using hn (j + 1) (by omega))]
    omega
theorem patAt_none (p : List UInt8) : ∀ (l : List UInt8), (∀ j, j < l.length → p.isPrefixOf (l.drop j) = false) → patAt p l = l.length
  | [], _ => rfl
  | x :: r, h => by
    have h0 := h 0 (by simp)
    rw [patAt, if_neg (by rw [List.drop_zero] at h0; rw [h0]; decide), patAt_none p r (fun j hj => by simpa using h (j + 1) (by simpa using hj))]
    simp only [List.length_cons]; omega
theorem index_pat {p : List UInt8} (hp : p ≠ []) (l : List UInt8) : Lib.index l p = if patAt p l < l.length then (patAt p l : Int) else -1 := by
  by_cases h : patAt p l < l.length
  · rw [if_pos h]
    exact Lib.index_first (Nat.le_of_lt h) (patAt_is p l h) (fun j hj => patAt_not p l j hj)
  · rw [if_neg h]
    have e : patAt p l = l.length := by have := patAt_le p l; omega
    refine Lib.index_none fun j hj => ?_
    by_cases c : j < patAt p l
    · exact patAt_not p l j c
    · have : j = l.length := by omega
      subst this
      cases p with
      | nil => exact absurd rfl hp
      | cons a p => simp [Lib.occAt]
theorem cut_pat {p l : List UInt8} (hp : p ≠ []) (h : patAt p l < l.length) : Lib.cut l p = (l.take (patAt p l), l.drop (patAt p l + p.length), true) := by
  unfold Lib.cut
  rw [index_pat hp, if_pos h, if_pos (by omega)]
  rfl
theorem cut_pat_no {p l : List UInt8} (hp : p ≠ []) (h : ¬ patAt p l < l.length) : Lib.cut l p = (l, [], false) := by
  unfold Lib.cut
  rw [index_pat hp, if_neg h, if_neg (by omega)]
theorem pre_one (c x : UInt8) (r : List UInt8) : ([c] : List UInt8).isPrefixOf (x :: r) = decide (x = c) := by
  simp only [List.isPrefixOf, Bool.and_true]
  by_cases h : x = c
  · subst h; simp
  · rw [beq_eq_false_iff_ne.2 (fun e => h e.symm)]; simp [h]
/-- What is cut at a byte, by the place where the byte stands first. -/
theorem cutG_pat (c : UInt8) : ∀ (l cur : List UInt8), cutG c cur l = if patAt [c] l < l.length then (cur ++ l.take (patAt [c] l)) :: cutG c [] (l.drop (patAt [c] l + 1)) else [cur ++ l]
  | [], cur => by simp [cutG, patAt]
  | x :: r, cur => by
    rw [patAt, pre_one]
    by_cases h : x = c
    · subst h
      rw [cutG_at]; simp
    · rw [cutG_on _ _ h, cutG_pat c r (cur ++ [x])]
      simp only [h, decide_false, Bool.false_eq_true, if_false, List.length_cons]
      by_cases q : patAt [c] r < r.length
      · rw [if_pos q, if_pos (by omega), show 1 + patAt [c] r = patAt [c] r + 1 from by omega]
        simp
      · rw [if_neg q, if_neg (by omega)]
        simp
theorem splitK_cut (c : UInt8) : ∀ (n : Nat) (l : List UInt8), l.length ≤ n → Lib.splitK [c] 0 (Lib.count l [c]) l = cutG c [] l := by
  intro n
  induction n with
  | zero =>
    intro l h
    have : l = [] := List.eq_nil_of_length_eq_zero (by omega)
    subst this
    rw [Lib.count_miss (by simp [Lib.index])]
    rfl
  | succ n ih =>
    intro l h
    rw [cutG_pat]
    by_cases q : patAt [c] l < l.length
    · have hi : Lib.index l [c] = (patAt [c] l : Nat) := by rw [index_pat (by simp), if_pos q]
      rw [Lib.count_hit (by simp) hi, Nat.add_comm, Lib.splitK, if_neg (by rw [hi]; simp), hi, if_pos q]
      have e := ih (l.drop (patAt [c] l + 1)) (by rw [List.length_drop]; omega)
      simp only [Int.toNat_natCast, List.length_singleton, Nat.add_zero, List.nil_append]
      rw [e]
    · rw [Lib.count_miss (by rw [index_pat (by simp), if_neg q]), if_neg q]
      rfl
theorem splitB_cut (c : UInt8) (s : ByteArray) : Lib.splitB ⟨#[c]⟩ 0 (Lib.countB s ⟨#[c]⟩) s = (cutG c [] s.data.toList).map hmk := by
  have h := Lib.splitB_data ⟨#[c]⟩ 0 (Lib.countB s ⟨#[c]⟩) s
  have e : (Lib.splitB ⟨#[c]⟩ 0 (Lib.countB s ⟨#[c]⟩) s) = ((Lib.splitB ⟨#[c]⟩ 0 (Lib.countB s ⟨#[c]⟩) s).map (·.data.toList)).map hmk := by
    rw [List.map_map]
    have : (hmk ∘ fun x : ByteArray => x.data.toList) = id := by
      funext x
      cases x
      simp [hmk]
    rw [this, List.map_id]
  rw [e, h]
  congr 1
  exact splitK_cut c _ s.data.toList (Nat.le_refl _)
theorem cutG_count (c : UInt8) (s : ByteArray) : Lib.countB s ⟨#[c]⟩ + 1 = (cutG c [] s.data.toList).length := by
  have h := Lib.splitB_all ⟨#[c]⟩ (Nat.le_refl _) 0 _ s rfl
  rw [splitB_cut, List.length_map] at h
  exact h.symm
end Go.Proofs.YtonnggelpjjmmaaGreatDoor
/-
  Plain mathematics of decimal digits that stay at their greatest: no Go in sight.
-/
namespace Go.Proofs.YtonnggelpjjmmaaGreatDoor
def digB (c : UInt8) : Bool := decide (48 ≤ (c.toNat : Int)) && decide ((c.toNat : Int) ≤ 57)
def accD (n : Int) (c : UInt8) : Int := if n * 10 + ((c.toNat : Int) - 48) < 2147483648 then n * 10 + ((c.toNat : Int) - 48) else 2147483648
def valD (l : List UInt8) : Int := l.foldl accD 0
def allD (l : List UInt8) : Bool := l.all digB
theorem accD_bd (n : Int) (c : UInt8) (h0 : 0 ≤ n) (hc : digB c = true) : 0 ≤ accD n c ∧ accD n c ≤ 2147483648 := by
  simp [digB] at hc
  unfold accD
  split <;> omega
theorem foldD_bd (l : List UInt8) : ∀ n : Int, 0 ≤ n → n ≤ 2147483648 → l.all digB = true → 0 ≤ l.foldl accD n ∧ l.foldl accD n ≤ 2147483648 := by
  induction l with
  | nil => intro n h0 h1 _; exact ⟨h0, h1⟩
  | cons c l ih =>
    intro n h0 h1 h
    simp only [List.all_cons, Bool.and_eq_true] at h
    have := accD_bd n c h0 h.1
    exact ih _ this.1 this.2 h.2
theorem valD_bd (l : List UInt8) (h : allD l = true) : 0 ≤ valD l ∧ valD l ≤ 2147483648 := foldD_bd l 0 (by omega) (by omega) h
theorem valD_snoc (l : List UInt8) (c : UInt8) : valD (l ++ [c]) = accD (valD l) c := by simp [valD]
theorem allD_snoc (l : List UInt8) (c : UInt8) : allD (l ++ [c]) = (allD l && digB c) := by simp [allD]
theorem allD_of_take (l : List UInt8) (k : Nat) (h : allD (l.take k) = false) : allD l = false := by
  have e := List.take_append_drop k l
  rw [← e]
  simp only [allD] at h ⊢
  rw [List.all_append, h, Bool.false_and]
/-- Digits as a number; -1 where they are none. -/
def okD (s : ByteArray) : Bool := decide (1 ≤ s.size) && decide (s.size ≤ 64) && allD s.data.toList
def numD (s : ByteArray) : Int := if okD s = true then valD s.data.toList else -1
theorem okD_short (s : ByteArray) (h : s.size < 1) : okD s = false := by simp [okD]; omega
theorem okD_long (s : ByteArray) (h : 64 < s.size) : okD s = false := by simp [okD]; omega
theorem okD_not (s : ByteArray) (k : Nat) (h : k < s.size) (hd : digB s[k] = false) : okD s = false := by
  have : allD s.data.toList = false := by
    refine allD_of_take _ (k + 1) ?_
    rw [take_snoc s k h, allD_snoc, hd, Bool.and_false]
  simp [okD, this]
theorem okD_yes (s : ByteArray) (h1 : 1 ≤ s.size) (h2 : s.size ≤ 64) (h : allD s.data.toList = true) : okD s = true := by simp [okD, h, h1, h2]
theorem numD_no (s : ByteArray) (h : okD s = false) : numD s = -1 := by simp [numD, h]
theorem numD_yes (s : ByteArray) (h : okD s = true) : numD s = valD s.data.toList := by simp [numD, h]
theorem okD_bd (s : ByteArray) (h : okD s = true) : 0 ≤ valD s.data.toList ∧ valD s.data.toList ≤ 2147483648 := by
  refine valD_bd _ ?_
  simp [okD] at h
  exact h.2
end Go.Proofs.YtonnggelpjjmmaaGreatDoor
/-
  Requests and responses read from bytes, plainly. No Go in sight.
-/
namespace Go.Proofs.YtonnggelpjjmmaaGreatDoor
/-- A first line and what stands behind it, up to the last 13 and 10. -/
def okRest (r : List UInt8) : Bool := decide (r = [13, 10]) || ([13, 10, 13, 10] : List UInt8).isSuffixOf r
def firstO (l : List UInt8) : Option (List UInt8 × List UInt8) :=
  if crAt l < l.length ∧ okRest (l.drop (crAt l + 2)) = true then some (l.take (crAt l), (l.drop (crAt l + 2)).take (l.length - (crAt l + 2) - 2)) else none
theorem firstO_no {l : List UInt8} (h : ¬ crAt l < l.length) : firstO l = none := by rw [firstO, if_neg (fun x => h x.1)]
theorem firstO_bad {l : List UInt8} (h : okRest (l.drop (crAt l + 2)) = false) : firstO l = none := by rw [firstO, if_neg (fun x => by rw [h] at x; exact absurd x.2 (by decide))]
theorem firstO_yes {l : List UInt8} (h : crAt l < l.length) (h2 : okRest (l.drop (crAt l + 2)) = true) : firstO l = some (l.take (crAt l), (l.drop (crAt l + 2)).take (l.length - (crAt l + 2) - 2)) := by rw [firstO, if_pos ⟨h, h2⟩]
theorem okRest_len {r : List UInt8} (h : okRest r = true) : 2 ≤ r.length := by
  simp only [okRest, Bool.or_eq_true, decide_eq_true_eq] at h
  rcases h with rfl | h
  · simp
  · have := (List.isSuffixOf_iff_suffix.1 h).length_le
    simp only [List.length_cons, List.length_nil] at this; omega
theorem okRest_suffix {r : List UInt8} (h : okRest r = true) : Lib.hasSuffix r [13, 10] = true := by
  unfold Lib.hasSuffix
  simp only [okRest, Bool.or_eq_true, decide_eq_true_eq] at h
  rcases h with rfl | h
  · rfl
  · rw [List.isSuffixOf_iff_suffix] at h ⊢
    exact List.IsSuffix.trans ⟨[13, 10], rfl⟩ h
structure Rq where
  m : ByteArray
  h : ByteArray
  p : ByteArray
  l : List Hdr
def rq0 : Rq := ⟨⟨#[]⟩, ⟨#[]⟩, ⟨#[]⟩, []⟩
def rqC (q : Rq) : Int := reqC q.m q.h q.p q.l
theorem vals_drop_len (x : ByteArray) : ∀ l : List Hdr, (dropH x l).length + (valsOf x l).length = l.length
  | [] => rfl
  | r :: l => by
    have ih := vals_drop_len x l
    simp only [dropH, valsOf, List.length_map, List.filter_cons] at ih ⊢
    by_cases h : lowS r.name = x
    · simp only [h, not_true, decide_false, decide_true, Bool.false_eq_true, if_false, if_true, List.length_cons]
      omega
    · simp only [h, not_false_eq_true, decide_true, decide_false, Bool.false_eq_true, if_false, if_true, List.length_cons]
      omega
/-- A first line that is three words, the last one the version. -/
def wordsOk (ws : List (List UInt8)) : Bool := decide (ws.length = 3) && decide (ws[2]? = some verL)
def hostOk (H : List Hdr) : Bool := decide ((valsOf hostN H).length = 1)
def reqOf (ws : List (List UInt8)) (H : List Hdr) : Rq := ⟨hmk (ws.getD 0 []), hmk (hjoinL (valsOf hostN H)), hmk (ws.getD 1 []), dropH hostN H⟩
def readQ (d : List UInt8) : Int × Rq :=
  if 8000 < d.length then (2, rq0) else match firstO d with
  | none => (5, rq0)
  | some x => if readHC (hmk x.2) = 0 then (if (wordsOk (cutG 32 [] x.1) && hostOk (readHL (hmk x.2))) = true then (if rqC (reqOf (cutG 32 [] x.1) (readHL (hmk x.2))) = 0 then (0, reqOf (cutG 32 [] x.1) (readHL (hmk x.2))) else (rqC (reqOf (cutG 32 [] x.1) (readHL (hmk x.2))), rq0)) else (5, rq0)) else (readHC (hmk x.2), rq0)
theorem readQ_long {d : List UInt8} (h : 8000 < d.length) : readQ d = (2, rq0) := by rw [readQ, if_pos h]
theorem readQ_none {d : List UInt8} (h : ¬ 8000 < d.length) (h1 : firstO d = none) : readQ d = (5, rq0) := by rw [readQ, if_neg h, h1]
theorem readQ_heads {d : List UInt8} {a b : List UInt8} (h : ¬ 8000 < d.length) (h1 : firstO d = some (a, b)) (h2 : ¬ readHC (hmk b) = 0) : readQ d = (readHC (hmk b), rq0) := by rw [readQ, if_neg h, h1]; simp only; rw [if_neg h2]
theorem readQ_words {d : List UInt8} {a b : List UInt8} (h : ¬ 8000 < d.length) (h1 : firstO d = some (a, b)) (h2 : readHC (hmk b) = 0) (h3 : (wordsOk (cutG 32 [] a) && hostOk (readHL (hmk b))) = false) : readQ d = (5, rq0) := by rw [readQ, if_neg h, h1]; simp only; rw [if_pos h2, if_neg (by rw [h3]; decide)]
theorem readQ_fault {d : List UInt8} {a b : List UInt8} (h : ¬ 8000 < d.length) (h1 : firstO d = some (a, b)) (h2 : readHC (hmk b) = 0) (h3 : (wordsOk (cutG 32 [] a) && hostOk (readHL (hmk b))) = true) (h4 : ¬ rqC (reqOf (cutG 32 [] a) (readHL (hmk b))) = 0) : readQ d = (rqC (reqOf (cutG 32 [] a) (readHL (hmk b))), rq0) := by rw [readQ, if_neg h, h1]; simp only; rw [if_pos h2, if_pos h3, if_neg h4]
theorem readQ_ok {d : List UInt8} {a b : List UInt8} (h : ¬ 8000 < d.length) (h1 : firstO d = some (a, b)) (h2 : readHC (hmk b) = 0) (h3 : (wordsOk (cutG 32 [] a) && hostOk (readHL (hmk b))) = true) (h4 : rqC (reqOf (cutG 32 [] a) (readHL (hmk b))) = 0) : readQ d = (0, reqOf (cutG 32 [] a) (readHL (hmk b))) := by rw [readQ, if_neg h, h1]; simp only; rw [if_pos h2, if_pos h3, if_pos h4]
/-! ### responses -/
structure Rp where
  s : Int
  l : List Hdr
  b : List UInt8
def rp0 : Rp := ⟨0, [], []⟩
def rpC (q : Rp) : Int := respC q.s q.l q.b.length
def ccL : List UInt8 := [13, 10, 13, 10]
def ccAt (l : List UInt8) : Nat := patAt ccL l
def headB (d : List UInt8) : List UInt8 := d.take (ccAt d) ++ [13, 10]
def lnP (d : List UInt8) : List UInt8 := (headB d).take (crAt (headB d))
def restP (d : List UInt8) : List UInt8 := (headB d).drop (crAt (headB d) + 2)
def bodyP (d : List UInt8) : List UInt8 := d.drop (ccAt d + 4)
def lineOk (ln : List UInt8) : Bool := decide (ln.length = 12) && decide (ln.take 9 = verL ++ [32]) && okD (hmk (ln.drop 9))
def respOf (d : List UInt8) : Rp := ⟨valD ((lnP d).drop 9), readHL (hmk (restP d)), bodyP d⟩
def readP (d : List UInt8) : Int × Rp :=
  if 10000 < d.length then (2, rp0) else if ccAt d < d.length then (if readHC (hmk (restP d)) = 0 then (if lineOk (lnP d) = true then (if rpC (respOf d) = 0 then (0, respOf d) else (rpC (respOf d), rp0)) else (5, rp0)) else (readHC (hmk (restP d)), rp0)) else (5, rp0)
theorem readP_long {d : List UInt8} (h : 10000 < d.length) : readP d = (2, rp0) := by rw [readP, if_pos h]
theorem readP_none {d : List UInt8} (h : ¬ 10000 < d.length) (h1 : ¬ ccAt d < d.length) : readP d = (5, rp0) := by rw [readP, if_neg h, if_neg h1]
theorem readP_heads {d : List UInt8} (h : ¬ 10000 < d.length) (h1 : ccAt d < d.length) (h2 : ¬ readHC (hmk (restP d)) = 0) : readP d = (readHC (hmk (restP d)), rp0) := by rw [readP, if_neg h, if_pos h1, if_neg h2]
theorem readP_line {d : List UInt8} (h : ¬ 10000 < d.length) (h1 : ccAt d < d.length) (h2 : readHC (hmk (restP d)) = 0) (h3 : lineOk (lnP d) = false) : readP d = (5, rp0) := by rw [readP, if_neg h, if_pos h1, if_pos h2, if_neg (by rw [h3]; decide)]
theorem readP_fault {d : List UInt8} (h : ¬ 10000 < d.length) (h1 : ccAt d < d.length) (h2 : readHC (hmk (restP d)) = 0) (h3 : lineOk (lnP d) = true) (h4 : ¬ rpC (respOf d) = 0) : readP d = (rpC (respOf d), rp0) := by rw [readP, if_neg h, if_pos h1, if_pos h2, if_pos h3, if_neg h4]
theorem readP_ok {d : List UInt8} (h : ¬ 10000 < d.length) (h1 : ccAt d < d.length) (h2 : readHC (hmk (restP d)) = 0) (h3 : lineOk (lnP d) = true) (h4 : rpC (respOf d) = 0) : readP d = (0, respOf d) := by rw [readP, if_neg h, if_pos h1, if_pos h2, if_pos h3, if_pos h4]
/-- A line's end that stands behind a text: where the first one stands. -/
theorem crAt_app (h t : List UInt8) : crAt (h ++ 13 :: 10 :: t) ≤ h.length ∧ crAt (h ++ 13 :: 10 :: t) = crAt (h ++ [13, 10]) := by
  induction h with
  | nil => simp [crAt]
  | cons x h ih =>
    cases h with
    | nil =>
      have : ¬ ((13 : UInt8) = 10) := by decide
      simp [crAt, this]
    | cons y h =>
      simp only [List.cons_append] at ih ⊢
      rw [crAt, crAt]
      by_cases e : x = 13 ∧ y = 10
      · rw [if_pos e, if_pos e]; simp
      · rw [if_neg e, if_neg e]
        refine ⟨?_, by rw [ih.2]⟩
        have := ih.1
        simp only [List.length_cons] at this ⊢; omega
theorem crAt_apart (h : List UInt8) : crAt (h ++ [13, 10]) = h.length ∨ crAt (h ++ [13, 10]) + 2 ≤ h.length := by
  obtain ⟨h1, _⟩ := crAt_app h []
  have h2 := crAt_is (h ++ [13, 10]) (by simp; omega)
  by_cases c : crAt (h ++ [13, 10]) + 1 = h.length
  · exfalso
    obtain ⟨t, ht⟩ := List.isPrefixOf_iff_prefix.1 h2
    have e1 := congrArg (fun l => l[1]?) ht
    simp only [List.getElem?_drop, c] at e1
    simp at e1
  · omega
theorem firstO_two (h : List UInt8) : firstO (h ++ [13, 10] ++ [13, 10]) = some ((h ++ [13, 10]).take (crAt (h ++ [13, 10])), (h ++ [13, 10]).drop (crAt (h ++ [13, 10]) + 2)) := by
  have e0 : h ++ [13, 10] ++ [13, 10] = h ++ 13 :: 10 :: [13, 10] := by simp
  obtain ⟨h1, h2⟩ := crAt_app h [13, 10]
  have h3 := crAt_apart h
  have hc : crAt (h ++ [13, 10] ++ [13, 10]) = crAt (h ++ [13, 10]) := by rw [e0]; exact h2
  have hle : crAt (h ++ [13, 10]) ≤ h.length := by rw [← h2]; exact h1
  generalize hk : crAt (h ++ [13, 10]) = k at *
  have ed : (h ++ [13, 10] ++ [13, 10]).drop (k + 2) = (h ++ [13, 10]).drop (k + 2) ++ [13, 10] := by
    rw [List.drop_append_of_le_length (by simp; omega)]
  have ok : okRest ((h ++ [13, 10] ++ [13, 10]).drop (k + 2)) = true := by
    rw [ed]
    rcases h3 with h3 | h3
    · have : (h ++ [13, 10]).drop (k + 2) = [] := by rw [h3]; exact List.drop_of_length_le (by simp)
      rw [this]; rfl
    · have : (h ++ [13, 10]).drop (k + 2) = h.drop (k + 2) ++ [13, 10] := List.drop_append_of_le_length h3
      rw [this]
      simp only [okRest, Bool.or_eq_true]
      refine .inr ?_
      rw [List.isSuffixOf_iff_suffix]
      exact ⟨h.drop (k + 2), by simp⟩
  rw [firstO_yes (by rw [hc]; simp; omega) (by rw [hc]; exact ok), hc, ed]
  congr 2
  · rw [List.take_append_of_le_length (by simp; omega)]
  · rw [List.take_append_of_le_length (by simp only [List.length_append, List.length_drop, List.length_cons, List.length_nil]; omega)]
    exact List.take_of_length_le (by simp only [List.length_append, List.length_drop, List.length_cons, List.length_nil]; omega)
theorem ccAt_room {d : List UInt8} (h : ccAt d < d.length) : ccAt d + 4 ≤ d.length ∧ d.take (ccAt d + 4) = headB d ++ [13, 10] := by
  have h2 : ccL.isPrefixOf (d.drop (ccAt d)) = true := patAt_is ccL d h
  obtain ⟨t, ht⟩ := List.isPrefixOf_iff_prefix.1 h2
  unfold headB
  generalize ccAt d = k at *
  have hl := congrArg List.length ht
  simp only [List.length_append, List.length_drop, ccL, List.length_cons, List.length_nil] at hl
  refine ⟨by omega, ?_⟩
  have e : d = d.take k ++ (ccL ++ t) := by
    rw [ht, List.take_append_drop]
  have hlen : (d.take k).length = k := by rw [List.length_take]; omega
  generalize d.take k = f at *
  subst e
  rw [List.take_append, hlen, List.take_of_length_le (by omega), show k + 4 - k = 4 from by omega]
  simp [ccL]
theorem firstO_headB {d : List UInt8} (h : ccAt d < d.length) : firstO (d.take (ccAt d + 4)) = some (lnP d, restP d) := by
  rw [(ccAt_room h).2]
  exact firstO_two _
end Go.Proofs.YtonnggelpjjmmaaGreatDoor
/-
  Requests that were packed are read back, plainly. No Go in sight.
-/
namespace Go.Proofs.YtonnggelpjjmmaaGreatDoor
theorem cutG_word (c : UInt8) : ∀ (a cur r : List UInt8), (∀ x ∈ a, x ≠ c) → cutG c cur (a ++ c :: r) = (cur ++ a) :: cutG c [] r
  | [], cur, r, _ => by rw [List.nil_append, cutG_at, List.append_nil]
  | x :: a, cur, r, h => by
    rw [List.cons_append, cutG_on _ _ (h x (by simp)), cutG_word c a _ r (fun y hy => h y (by simp [hy])), List.append_assoc]
    rfl
theorem cutG_last (c : UInt8) : ∀ (a cur : List UInt8), (∀ x ∈ a, x ≠ c) → cutG c cur a = [cur ++ a]
  | [], cur, _ => by rw [List.append_nil]; rfl
  | x :: a, cur, h => by
    rw [cutG_on _ _ (h x (by simp)), cutG_last c a _ (fun y hy => h y (by simp [hy])), List.append_assoc]
    rfl
theorem meth_mem {m : ByteArray} (h : methS m = true) : m.data.toList.length ≤ 4 ∧ ∀ c ∈ m.data.toList, c ≠ 32 ∧ c ≠ 13 := by
  simp only [methS, Bool.or_eq_true, decide_eq_true_eq] at h
  rcases h with rfl | rfl <;> exact ⟨by decide, by decide⟩
theorem path_mem {p : ByteArray} (h : pathS p = true) : p.data.toList.length ≤ 100 ∧ ∀ c ∈ p.data.toList, c ≠ 32 ∧ c ≠ 13 := by
  simp only [pathS, Bool.and_eq_true, decide_eq_true_eq] at h
  refine ⟨by have := h.1.2; simpa using this, fun c hc => ?_⟩
  have hp : pathI (c.toNat : Int) = true := allP_mem h.2 c hc
  constructor
  · rintro rfl; exact absurd hp (by decide +kernel)
  · rintro rfl; exact absurd hp (by decide +kernel)
theorem packL_end {l : List Hdr} (h : l ≠ []) : ∃ q, packL l = q ++ [13, 10] := by
  obtain ⟨i, r, rfl⟩ : ∃ i r, l = i ++ [r] := ⟨l.dropLast, l.getLast h, (List.dropLast_concat_getLast h).symm⟩
  exact ⟨packL i ++ (r.name.data.toList ++ [58, 32] ++ r.value.data.toList), by simp [packL, lineL]⟩
/-- A first line, and head lines behind it. -/
theorem firstO_line {a b : List UInt8} (ha : ∀ c ∈ a, c ≠ 13) (hb : b = [] ∨ ∃ q, b = q ++ [13, 10]) : firstO (a ++ 13 :: 10 :: (b ++ [13, 10])) = some (a, b) := by
  have e := crAt_line a (b ++ [13, 10]) ha
  have d : (a ++ 13 :: 10 :: (b ++ [13, 10])).drop (a.length + 2) = b ++ [13, 10] := by
    rw [List.drop_append, List.drop_of_length_le (by omega), show a.length + 2 - a.length = 2 from by omega]; rfl
  have ok : okRest (b ++ [13, 10]) = true := by
    simp only [okRest, Bool.or_eq_true, decide_eq_true_eq]
    rcases hb with rfl | ⟨q, rfl⟩
    · exact .inl rfl
    · refine .inr ?_
      rw [List.isSuffixOf_iff_suffix]
      exact ⟨q, by simp⟩
  rw [firstO_yes (by rw [e]; simp) (by rw [e, d]; exact ok), e, d]
  refine congrArg some (Prod.ext ?_ ?_)
  · simp
  · show List.take _ _ = b
    have el : (a ++ 13 :: 10 :: (b ++ [13, 10])).length - (a.length + 2) - 2 = b.length := by simp only [List.length_append, List.length_cons, List.length_nil]; omega
    rw [el]
    exact List.take_left
theorem dropH_none {x : ByteArray} : ∀ {l : List Hdr}, valsOf x l = [] → dropH x l = l
  | [], _ => rfl
  | r :: l, h => by
    simp only [valsOf, List.filter_cons] at h
    by_cases c : lowS r.name = x
    · rw [if_pos (by simpa using c)] at h; simp at h
    · rw [if_neg (by simpa using c)] at h
      have ih := dropH_none (l := l) h
      simp only [dropH, List.filter_cons] at ih ⊢
      rw [if_pos (by simpa using c), ih]
theorem readQ_pack {m h p : ByteArray} {l : List Hdr} (c : reqC m h p l = 0) : readQ (reqL m h p l) = (0, ⟨m, h, p, l⟩) := by
  obtain ⟨c1, c2, c3, c4⟩ := reqC_zero c
  obtain ⟨d1, d2, d3⟩ := lineS_true c1
  obtain ⟨m1, m2⟩ := meth_mem d1
  obtain ⟨p1, p2⟩ := path_mem d3
  have hh := host_heads d2 c2 c4
  have hlen := packL_len hh
  have hrd := pack_read hh
  rw [packT_ok hh] at hrd
  have eL : reqL m h p l = (m.data.toList ++ 32 :: (p.data.toList ++ 32 :: verL)) ++ 13 :: 10 :: (packL (⟨hostT, h⟩ :: l) ++ [13, 10]) := by simp [reqL]
  have hf : firstO (reqL m h p l) = some (m.data.toList ++ 32 :: (p.data.toList ++ 32 :: verL), packL (⟨hostT, h⟩ :: l)) := by
    rw [eL]
    refine firstO_line ?_ (.inr (packL_end (by simp)))
    intro x hx
    simp only [List.mem_append, List.mem_cons] at hx
    rcases hx with hx | rfl | hx | rfl | hx
    · exact (m2 x hx).2
    · decide
    · exact (p2 x hx).2
    · decide
    · revert x; decide
  have hw : cutG 32 [] (m.data.toList ++ 32 :: (p.data.toList ++ 32 :: verL)) = [m.data.toList, p.data.toList, verL] := by
    rw [cutG_word 32 _ _ _ (fun x hx => (m2 x hx).1), cutG_word 32 _ _ _ (fun x hx => (p2 x hx).1), cutG_last 32 _ _ (by decide)]
    simp
  have hv : valsOf hostN (⟨hostT, h⟩ :: l) = [h] := by
    have : valsOf hostN (⟨hostT, h⟩ :: l) = h :: valsOf hostN l := by
      simp only [valsOf, List.filter_cons]
      rw [if_pos (by simpa using hostT_low)]
      rfl
    rw [this, c3]
  have hdr : dropH hostN (⟨hostT, h⟩ :: l) = l := by
    have : dropH hostN (⟨hostT, h⟩ :: l) = dropH hostN l := by
      simp only [dropH, List.filter_cons]
      rw [if_neg (by simp [hostT_low])]
    rw [this, dropH_none c3]
  have hq : reqOf (cutG 32 [] (m.data.toList ++ 32 :: (p.data.toList ++ 32 :: verL))) (readHL (hmk (packL (⟨hostT, h⟩ :: l)))) = ⟨m, h, p, l⟩ := by
    rw [show hmk (packL (⟨hostT, h⟩ :: l)) = ⟨(packL (⟨hostT, h⟩ :: l)).toArray⟩ from rfl, hrd.2, hw]
    unfold reqOf
    rw [hv, hdr]
    have e1 : hmk (hjoinL [h]) = h := by simp [hjoinL, Lib.join, List.intercalate, hmk]
    have e2 : ∀ x : ByteArray, hmk x.data.toList = x := fun x => by simp [hmk]
    rw [e1]
    show (⟨hmk m.data.toList, h, hmk p.data.toList, l⟩ : Rq) = _
    rw [e2, e2]
  have hlong : ¬ 8000 < (reqL m h p l).length := by
    rw [eL]
    simp only [List.length_append, List.length_cons, List.length_nil, verL] at hlen ⊢
    omega
  rw [readQ_ok hlong hf hrd.1 ?_ ?_, hq]
  · rw [hw, show hmk (packL (⟨hostT, h⟩ :: l)) = ⟨(packL (⟨hostT, h⟩ :: l)).toArray⟩ from rfl, hrd.2]
    simp [wordsOk, hostOk, hv]
  · rw [hq]; exact c
end Go.Proofs.YtonnggelpjjmmaaGreatDoor
/-
  Responses that were packed are read back, plainly. No Go in sight.
-/
namespace Go.Proofs.YtonnggelpjjmmaaGreatDoor
open num (numT)
theorem num_three : ∀ k : Fin 400, (numT (200 + (k.val : Int))).data.toList.length = 3 ∧ okD (numT (200 + (k.val : Int))) = true ∧ valD (numT (200 + (k.val : Int))).data.toList = 200 + (k.val : Int) ∧ ∀ c ∈ (numT (200 + (k.val : Int))).data.toList, c ≠ 13 := by decide +kernel
theorem num_status {s : Int} (h1 : 200 ≤ s) (h2 : s ≤ 599) : (numT s).data.toList.length = 3 ∧ okD (numT s) = true ∧ valD (numT s).data.toList = s ∧ ∀ c ∈ (numT s).data.toList, c ≠ 13 := by
  have := num_three ⟨(s - 200).toNat, by omega⟩
  simp only [show (200 + (((s - 200).toNat : Nat) : Int)) = s from by omega] at this
  exact this
theorem cc_skip (t : List UInt8) : ∀ x : List UInt8, (∀ c ∈ x, c ≠ 13) → ccAt (x ++ t) = x.length + ccAt t
  | [], _ => by simp
  | c :: x, h => by
    have ih := cc_skip t x (fun d hd => h d (by simp [hd]))
    have hn : ¬ ccL.isPrefixOf (c :: (x ++ t)) = true := by
      have := h c (by simp)
      simp only [ccL, List.isPrefixOf, Bool.and_eq_true, beq_iff_eq]
      exact fun e => this e.1.symm
    unfold ccAt at ih ⊢
    rw [List.cons_append, patAt, if_neg hn, ih, List.length_cons]
    omega
theorem cc_over {c : UInt8} (t : List UInt8) (h : c ≠ 13) : ccAt (13 :: 10 :: c :: t) = 2 + ccAt (c :: t) := by
  have h1 : ¬ ccL.isPrefixOf (13 :: 10 :: c :: t) = true := by
    simp only [ccL, List.isPrefixOf, Bool.and_eq_true, beq_iff_eq]
    exact fun e => h e.2.2.1.symm
  have h2 : ¬ ccL.isPrefixOf (10 :: c :: t) = true := by
    simp only [ccL, List.isPrefixOf, Bool.and_eq_true, beq_iff_eq]
    exact fun e => absurd e.1 (by decide)
  unfold ccAt
  rw [patAt, if_neg h1, patAt, if_neg h2]
  omega
theorem cc_here (t : List UInt8) : ccAt (13 :: 10 :: 13 :: 10 :: t) = 0 := by
  have h1 : ccL.isPrefixOf (13 :: 10 :: 13 :: 10 :: t) = true := by simp [ccL, List.isPrefixOf]
  unfold ccAt
  rw [patAt, if_pos h1]
/-- No line that was packed is empty: the head ends where its last line does. -/
theorem cc_lines (b : List UInt8) : ∀ (X : List (List UInt8)) (x : List UInt8), (∀ c ∈ x, c ≠ 13) → (∀ y ∈ X, y ≠ [] ∧ ∀ c ∈ y, c ≠ 13) → ccAt (x ++ 13 :: 10 :: (X.flatMap (fun y => y ++ [13, 10]) ++ 13 :: 10 :: b)) = (x ++ 13 :: 10 :: X.flatMap (fun y => y ++ [13, 10])).length - 2
  | [], x, hx, _ => by
    rw [cc_skip _ _ hx, List.flatMap_nil, List.nil_append, cc_here]
    simp
  | y :: X, x, hx, hX => by
    obtain ⟨h1, h2⟩ := hX y (by simp)
    have ih := cc_lines b X y h2 (fun z hz => hX z (by simp [hz]))
    obtain ⟨c, z, rfl⟩ := List.exists_cons_of_ne_nil h1
    rw [cc_skip _ _ hx, List.flatMap_cons]
    simp only [List.append_assoc, List.cons_append, List.nil_append] at ih ⊢
    rw [cc_over _ (h2 c (by simp)), ih]
    simp only [List.length_append, List.length_cons]
    omega
def lineB (r : Hdr) : List UInt8 := r.name.data.toList ++ 58 :: 32 :: r.value.data.toList
theorem lineB_mem {r : Hdr} (h : faultH r = 0) : lineB r ≠ [] ∧ ∀ c ∈ lineB r, c ≠ 13 := by
  obtain ⟨h1, _, h3, _⟩ := faultH_zero h
  refine ⟨by simp [lineB], fun c hc => ?_⟩
  simp only [lineB, List.mem_append, List.mem_cons] at hc
  rcases hc with hc | rfl | rfl | hc
  · exact (word_mem h1 c hc).2
  · decide
  · decide
  · exact plain_mem h3 c hc
theorem packL_lines (l : List Hdr) : packL l = (l.map lineB).flatMap (fun y => y ++ [13, 10]) := by
  simp only [packL, List.flatMap_map]
  congr 1
  funext r
  simp [lineL, lineB]
theorem readP_pack {s : Int} {l : List Hdr} {b : List UInt8} (c : respC s l b.length = 0) : readP (respL s l b) = (0, ⟨s, l, b⟩) := by
  obtain ⟨c1, c2, c3, c4⟩ := respC_zero c
  obtain ⟨n1, n2, n3, n4⟩ := num_status c1 c2
  have hlen := packL_len c3
  have hl20 := (heads_mem c3).1
  have hrd := pack_read c3
  rw [packT_ok c3] at hrd
  obtain ⟨x, hx⟩ : ∃ x, x = verL ++ 32 :: (numT s).data.toList := ⟨_, rfl⟩
  have x13 : ∀ c ∈ x, c ≠ 13 := by
    rw [hx]
    intro c hc
    simp only [List.mem_append, List.mem_cons] at hc
    rcases hc with hc | rfl | hc
    · revert c; decide
    · decide
    · exact n4 c hc
  have xlen : x.length = 12 := by rw [hx]; simp only [List.length_append, List.length_cons, n1, verL, List.length_nil]
  have eL : respL s l b = x ++ 13 :: 10 :: (packL l ++ 13 :: 10 :: b) := by rw [hx]; simp [respL, respH]
  have hcc : ccAt (respL s l b) = (x ++ 13 :: 10 :: packL l).length - 2 := by
    rw [eL, packL_lines]
    refine cc_lines b (l.map lineB) x x13 ?_
    intro y hy
    obtain ⟨r, hr, rfl⟩ := List.mem_map.1 hy
    exact lineB_mem ((heads_mem c3).2 r hr)
  have eT : ∃ q, x ++ 13 :: 10 :: packL l = q ++ [13, 10] := by
    by_cases e : l = []
    · subst e; exact ⟨x, rfl⟩
    · obtain ⟨q, hq⟩ := packL_end e
      exact ⟨x ++ 13 :: 10 :: q, by rw [hq]; simp⟩
  obtain ⟨q, hq⟩ := eT
  have eD : respL s l b = q ++ 13 :: 10 :: 13 :: 10 :: b := by
    rw [eL, show x ++ 13 :: 10 :: (packL l ++ 13 :: 10 :: b) = (x ++ 13 :: 10 :: packL l) ++ 13 :: 10 :: b from by simp, hq]
    simp
  have hcq : ccAt (respL s l b) = q.length := by
    rw [hcc, hq]
    simp
  have eH : headB (respL s l b) = x ++ 13 :: 10 :: packL l := by
    rw [headB, hcq, eD, hq]
    simp
  have eB : bodyP (respL s l b) = b := by
    rw [bodyP, hcq, eD, show q ++ 13 :: 10 :: 13 :: 10 :: b = (q ++ [13, 10, 13, 10]) ++ b from by simp, show q.length + 4 = (q ++ [13, 10, 13, 10]).length from by simp]
    exact List.drop_left
  have eC := crAt_line x (packL l) x13
  have eN : lnP (respL s l b) = x := by
    rw [lnP, eH, eC]
    exact List.take_left
  have eR : restP (respL s l b) = packL l := by
    rw [restP, eH, eC, show x ++ 13 :: 10 :: packL l = (x ++ [13, 10]) ++ packL l from by simp, show x.length + 2 = (x ++ [13, 10]).length from by simp]
    exact List.drop_left
  have x9 : x.drop 9 = (numT s).data.toList := by rw [hx]; rfl
  have x9' : x.take 9 = verL ++ [32] := by rw [hx]; rfl
  have eO : respOf (respL s l b) = ⟨s, l, b⟩ := by
    rw [respOf, eN, eR, eB, x9, n3, show hmk (packL l) = ⟨(packL l).toArray⟩ from rfl, hrd.2]
  have hlong : ¬ 10000 < (respL s l b).length := by
    rw [eL]
    simp only [List.length_append, List.length_cons, xlen]
    omega
  rw [readP_ok hlong (by rw [hcq, eD]; simp) (by rw [eR]; exact hrd.1) ?_ ?_, eO]
  · rw [eN, lineOk, x9', x9, xlen]
    simp only [decide_true, Bool.true_and]
    rw [show hmk (numT s).data.toList = numT s from by simp [hmk]]
    exact n2
  · rw [eO]; exact c
/-! ### what was read has no fault -/
theorem readP_right {d : List UInt8} (h : (readP d).1 = 0) : rpC (readP d).2 = 0 := by
  unfold readP at *
  split
  · rename_i c; rw [if_pos c] at h; exact absurd h (by decide)
  · rename_i c
    rw [if_neg c] at h
    split
    · rename_i c1
      rw [if_pos c1] at h
      split
      · rename_i c2
        rw [if_pos c2] at h
        split
        · rename_i c3
          rw [if_pos c3] at h
          split
          · assumption
          · rename_i c4
            rw [if_neg c4] at h
            exact absurd h c4
        · rename_i c3
          rw [if_neg c3] at h
          exact absurd h (by decide)
      · rename_i c2
        rw [if_neg c2] at h
        exact absurd h c2
    · rename_i c1
      rw [if_neg c1] at h
      exact absurd h (by decide)
theorem readQ_right {d : List UInt8} (h : (readQ d).1 = 0) : rqC (readQ d).2 = 0 := by
  unfold readQ at *
  split
  · rename_i c; rw [if_pos c] at h; exact absurd h (by decide)
  · rename_i c
    rw [if_neg c] at h
    split
    · rename_i hx
      rw [hx] at h
      exact absurd h (by decide)
    · rename_i x hx
      rw [hx] at h
      simp only at h
      split
      · rename_i c2
        rw [if_pos c2] at h
        split
        · rename_i c3
          rw [if_pos c3] at h
          split
          · assumption
          · rename_i c4
            rw [if_neg c4] at h
            exact absurd h c4
        · rename_i c3
          rw [if_neg c3] at h
          exact absurd h (by decide)
      · rename_i c2
        rw [if_neg c2] at h
        exact absurd h c2
end Go.Proofs.YtonnggelpjjmmaaGreatDoor
/-
  The draws of bytes to be read.
-/
namespace Go.Proofs.YtonnggelpjjmmaaGreatDoor
open Go.ChangeShapes Go.WideShapes Go.ChangeAt Go.RowKit
theorem bfield_bytes (c : Int) (a : Option Addr) (n k : Nat) (w : World) : (Instr.field 29 (.agg #[.int .i64 c, .slice a n k]) 1).run Tryz.prog w = .ok (.slice a n k) w := by kernel_rfl
theorem reqB_len (m h p : ByteArray) (l : List Hdr) : (reqB m h p l).length ≤ 8000 := by
  unfold reqB
  split
  · rename_i c
    have := readQ_pack c
    by_cases hb : 8000 < (reqL m h p l).length
    · rw [readQ_long hb] at this
      simp at this
    · omega
  · simp
theorem respB_len (s : Int) (l : List Hdr) (b : List UInt8) : (respB s l b).length ≤ 10000 := by
  unfold respB
  split
  · rename_i c
    have := readP_pack c
    by_cases hb : 10000 < (respL s l b).length
    · rw [readP_long hb] at this
      simp at this
    · omega
  · simp
/-- Drawn bytes. -/
def SomeData (e : Ending) (w : World) : Prop := ∃ a k l, e = .returned (.slice a (List.length l) k) ∧ List.length l ≤ k ∧ BIn w a l ∧ List.length l ≤ 10000
theorem BOwn.bin {w : World} {base : Nat} {a : Option Addr} {n k : Nat} {l : List UInt8} (h : BOwn w base (.slice a n k) l) : n = l.length ∧ BIn w a l := by
  obtain ⟨a', k, e, hi⟩ := h.shape
  simp only [Value.slice.injEq] at e
  exact ⟨e.2.1, by rw [e.1]; exact hi⟩
theorem SomeData.own {w : World} {base : Nat} {a : Option Addr} {n k : Nat} {l : List UInt8} (h : BOwn w base (.slice a n k) l) (hk : n ≤ k) (hl : l.length ≤ 10000) : SomeData (.returned (.slice a n k)) w := by
  obtain ⟨rfl, hi⟩ := h.bin
  exact ⟨a, k, l, rfl, hk, hi, hl⟩
theorem SomeData.text {w : World} {g k : Nat} {t : ByteArray} (h : BFree w g t.data.toList k) (hl : t.size ≤ 10000) : SomeData (.returned (.slice (some ⟨g, 0, none⟩) t.size k)) w := by
  have e : t.size = t.data.toList.length := by simp
  rw [e] at hl ⊢
  exact ⟨_, k, _, rfl, h.le, .inr ⟨g, 0, rfl, h.at0⟩, hl⟩
theorem SomeData.cut {w : World} {g n k j : Nat} {l : List UInt8} (h : BMine w g l) (e : n = l.length) (hk : n ≤ k) (hl : l.length ≤ 10000) (hj : j ≤ n) : SomeData (.returned (.slice (some ⟨g, 0, none⟩) j k)) w := by
  have e2 : j = (l.take j).length := by rw [List.length_take]; omega
  refine ⟨some ⟨g, 0, none⟩, k, l.take j, by rw [← e2], by omega, .inr ⟨g, 0, rfl, fun i c hc => h.at0 i c ?_⟩, by omega⟩
  rw [List.getElem?_take] at hc
  split at hc
  · exact hc
  · cases hc
theorem SomeData.put {w : World} {g n k j : Nat} {l : List UInt8} {t : Int} (h : BMine w g l) (e : n = l.length) (hk : n ≤ k) (hl : l.length ≤ 10000) (hj : j < n) (ht : t ∈ ([13, 10, 32, 120, 58] : List Int)) : SomeData (.returned (.slice (some ⟨g, 0, none⟩) n k)) (w.setCell ⟨g, j, none⟩ (.int .u8 t)) := by
  subst e
  have e2 : l.length = (l.set j (UInt8.ofNat t.toNat)).length := by rw [List.length_set]
  refine ⟨some ⟨g, 0, none⟩, k, l.set j (UInt8.ofNat t.toNat), by rw [← e2], by omega, .inr ⟨g, 0, rfl, fun i c hc => ?_⟩, by omega⟩
  rw [List.getElem?_set] at hc
  rw [Nat.zero_add]
  split at hc
  · rename_i hji
    subst hji
    obtain rfl := Option.some.inj hc
    have h0 := h.at0 j _ (List.getElem?_eq_getElem hj)
    rw [Nat.zero_add] at h0
    rw [World.cell?_setCell_same _ _ _ h0]
    simp only [List.mem_cons, List.not_mem_nil, or_false] at ht
    rcases ht with rfl | rfl | rfl | rfl | rfl <;> rfl
  · rename_i hji
    rw [World.cell?_setCell_other _ _ _ _ (by intro e; have := congrArg Addr.off e; simp at this; exact hji this)]
    have := h.at0 i c hc
    rwa [Nat.zero_add] at this
theorem pick_wrap {t : Int} (ht : t ∈ ([13, 10, 32, 120, 58] : List Int)) : IntKind.u8.wrap t = t := by
  simp only [List.mem_cons, List.not_mem_nil, or_false] at ht
  rcases ht with rfl | rfl | rfl | rfl | rfl <;> rfl
/-- What stands while data is bent. -/
structure BD (w : World) (a : Option Addr) (len cap k : Nat) (da : Option Addr) (dn dk : Nat) (dl : List UInt8) (X : World) : Prop where
  sr : Src X w.heap.size a len cap k
  b : Below w.heap.size w X
  o : BOwn X (w.heap.size + 1) (.slice da dn dk) dl
  r : dn ≤ dk
  l : dl.length ≤ 10000
theorem BD.next {w : World} {a : Option Addr} {len cap k k' : Nat} {da : Option Addr} {dn dk : Nat} {dl : List UInt8} {X X' : World} (q : BD w a len cap k da dn dk dl X) (hs : Src X' w.heap.size a len cap k') (hb : Below w.heap.size X X') (ha : ApartH w.heap.size X X') : BD w a len cap k' da dn dk dl X' :=
  ⟨hs, q.b.trans hb, q.o.apart ha (Nat.lt_succ_self _), q.r, q.l⟩
theorem BD.mine {w : World} {a : Option Addr} {len cap k g : Nat} {dn dk : Nat} {dl : List UInt8} {X : World} (q : BD w a len cap k (some ⟨g, 0, none⟩) dn dk dl X) : dn = dl.length ∧ BMine X g dl ∧ w.heap.size < g := by
  rcases q.o with h | ⟨g', k', e, hg, hm⟩
  · simp at h
  · simp only [Value.slice.injEq, Option.some.injEq, Addr.mk.injEq, and_true] at e
    obtain ⟨rfl, rfl, _⟩ := e
    exact ⟨rfl, hm, hg⟩
theorem BD.shape {w : World} {a : Option Addr} {len cap k : Nat} {da : Option Addr} {dn dk : Nat} {dl : List UInt8} {X : World} (q : BD w a len cap k da dn dk dl X) : (da = none ∧ dn = 0 ∧ dk = 0) ∨ ∃ g, da = some ⟨g, 0, none⟩ := by
  rcases q.o with h | ⟨g', k', e, hg, hm⟩
  · simp only [Value.slice.injEq] at h
    exact .inl h.1
  · simp only [Value.slice.injEq] at e
    exact .inr ⟨g', e.1⟩
theorem BD.done {w : World} {a : Option Addr} {len cap k : Nat} {da : Option Addr} {dn dk : Nat} {dl : List UInt8} {X : World} (q : BD w a len cap k da dn dk dl X) : SomeData (.returned (.slice da dn dk)) X ∧ Below w.heap.size w X := ⟨.own q.o q.r q.l, q.b⟩
set_option maxRecDepth 100000 in
set_option maxHeartbeats 16000000 in
theorem drawReadRequest_any (w : World) (a : Option Addr) (len cap : Nat) (hc : CodeRow w w.heap.size a len) (hl2 : len ≤ 1048576) :
    Calls Tryz.prog 20 #[.slice a len cap] w fun e w' => SomeData e w' ∧ Below w.heap.size w w' := by
  have H1 := l1Source_any w a len cap hc
  clear hc
  go_enter Tryz.func20, Tryz.ntmps20
  go_wp2_with fail
  refine H1.mono ?_
  rintro e w1 ⟨rfl, hs1, hb1⟩
  clear H1
  have HB1 : Hid (Below w.heap.size w w1) := hb1
  have H2 := l5Bent_any w1 w.heap.size a len cap 0 hs1 (by omega) hl2
  clear hs1 hb1
  go_wp2_with fail
  refine H2.mono ?_
  rintro e w2 ⟨⟨m, h, p, va, vc, M, rfl, hm, hh, hp, ho, hM, hsm⟩, ⟨k2, hk2, hs2⟩, hb2, ha2⟩
  have hqi : HdsIn w2 va M := by
    obtain ⟨a', c', e, hi⟩ := ho.at
    simp only [Value.slice.injEq] at e
    rw [e.1]; exact hi
  have HB2 : Hid (Below w.heap.size w w2) := HB1.out.trans hb2
  have HS2 : Hid (Src w2 w.heap.size a len cap k2) := hs2
  have H3 := specPackReq_cap w2 m h p va vc M (by omega) hqi
  have hlt2 := hs2.lt
  have hBL := reqB_len m h p M
  clear H2 HB1 hs2 hb2 ha2 ho hsm hqi hm hh hp
  clear hM
  obtain ⟨mn, hmn⟩ : ∃ n, Hid (M.length = n) := ⟨_, rfl⟩
  obtain ⟨dl, hdl⟩ : ∃ n, Hid (reqB m h p M = n) := ⟨_, rfl⟩
  rw [hmn.out, hdl.out] at H3
  rw [hdl.out] at hBL
  rw [hmn.out]
  have hf := bfield_bytes
  go_wp2_with fail
  refine H3.mono ?_
  rintro e w3 ⟨⟨da, dn, dk, rfl, hdo, hdk⟩, hb3⟩
  have Q3 : Hid (BD w a len cap k2 da dn dk dl w3) := ⟨HS2.out.below (hb3.mono (by omega)), HB2.out.trans (hb3.mono (by omega)), hdo.lower (by omega), hdk, by omega⟩
  clear H3 hb3 hdo HB2 HS2 hmn hdl
  have H4 := l1Next_h w3 w.heap.size a len cap k2 7 Q3.out.sr (by omega) (by omega) (by omega) hl2
  go_wp2_with fail
  refine H4.mono ?_
  rintro e w4 ⟨⟨x, hx0, hx1, rfl⟩, hs4, hb4, ha4⟩
  have Q4 : Hid (BD w a len cap (k2 + 1) da dn dk dl w4) := Q3.out.next hs4 hb4 ha4
  clear H4 Q3 hs4 hb4 ha4 hlt2
  clear w3 w2 w1
  have hxs : x = 0 ∨ x = 1 ∨ x = 2 ∨ 3 ≤ x := by omega
  rcases hxs with rfl | rfl | rfl | hx3
  · have H5 := l1Word_h w4 w.heap.size a len cap (k2 + 1) Q4.out.sr ([⟨#[71, 69, 84, 32, 47, 32, 72, 84, 84, 80, 47, 49, 46, 49, 13, 10, 72, 111, 115, 116, 58, 32, 97, 13, 10, 13, 10]⟩, ⟨#[71, 69, 84, 32, 47, 32, 72, 84, 84, 80, 47, 49, 46, 49, 13, 10, 13, 10]⟩, ⟨#[71, 69, 84, 32, 47, 32, 32, 72, 84, 84, 80, 47, 49, 46, 49, 13, 10, 72, 111, 115, 116, 58, 32, 97, 13, 10, 13, 10]⟩, ⟨#[71, 69, 84, 32, 47, 32, 72, 84, 84, 80, 47, 49, 46, 48, 13, 10, 72, 111, 115, 116, 58, 32, 97, 13, 10, 13, 10]⟩, ⟨#[71, 69, 84, 32, 47, 32, 72, 84, 84, 80, 47, 49, 46, 49, 13, 10, 104, 111, 115, 116, 58, 97, 13, 10, 120, 58, 49, 13, 10, 13, 10]⟩, ⟨#[71, 69, 84, 32, 47, 32, 72, 84, 84, 80, 47, 49, 46, 49, 13, 10, 72, 111, 115, 116, 58, 32, 97, 13, 10, 72, 111, 115, 116, 58, 32, 98, 13, 10, 13, 10]⟩, ⟨#[71, 69, 84, 32, 47, 32, 72, 84, 84, 80, 47, 49, 46, 49, 13, 10, 72, 111, 115, 116, 58, 32, 97, 13, 10]⟩, ⟨#[]⟩, ⟨#[13, 10, 13, 10]⟩, ⟨#[71, 69, 84, 32, 47, 32, 72, 84, 84, 80, 47, 49, 46, 49, 13, 10, 72, 111, 115, 116, 58, 32, 97, 13, 10, 13, 10, 120]⟩] : List ByteArray) 10 rfl (by omega) (by omega) (by omega) hl2
    simp only [List.map_cons, List.map_nil] at H5
    go_wp2_with fail
    refine H5.mono ?_
    rintro e w5 ⟨⟨t, ht, rfl⟩, hs5, hb5, ha5⟩
    have htz := smallH_of ht (by decide)
    obtain ⟨C, cc, hcv, hm⟩ := bytes_of_text2 w5 t
    obtain ⟨X, hX⟩ : ∃ X, X = w5.drew.alloc (.cells C 5 (C.size, C.size + 1)) := ⟨_, rfl⟩
    have bX : Below w5.heap.size w5 X := by rw [hX]; exact ((Below.refl _ _).drew).alloc (Nat.le_refl _) _
    rw [← hX] at hcv hm
    have K : Hid (BFree X w5.heap.size t.data.toList cc ∧ Below w.heap.size w X) := ⟨hm, (Q4.out.b.trans hb5).trans (bX.mono (Q4.out.b.trans hb5).size)⟩
    clear hs5 hb5 ha5 bX hX hm ht H5
    go_wp2_with fail
    go_ret
    exact ⟨.text K.out.1 (by omega), K.out.2⟩
  · by_cases hz : dn = 0
    · subst hz
      go_wp2_with fail
      go_ret
      exact Q4.out.done
    · have hpos : (0 : Int) < (dn : Int) := by omega
      rcases Q4.out.shape with ⟨_, h0, _⟩ | ⟨g, rfl⟩
      · exact absurd h0 hz
      have hdn := Q4.out.mine.1
      have H5 := l1Next_h w4 w.heap.size a len cap (k2 + 1) (dn : Int) Q4.out.sr (by omega) (by omega) (by omega) hl2
      have HDN : Hid (dn = dl.length) := hdn
      clear hdn
      go_wp2_with fail
      refine H5.mono ?_
      rintro e w5 ⟨⟨y, hy0, hy1, rfl⟩, hs5, hb5, ha5⟩
      have Q5 : Hid (BD w a len cap (k2 + 1 + 1) (some ⟨g, 0, none⟩) dn dk dl w5) := Q4.out.next hs5 hb5 ha5
      obtain ⟨j, rfl⟩ : ∃ j : Nat, y = (j : Int) := ⟨y.toNat, by omega⟩
      clear hs5 hb5 ha5 H5 Q4
      have H6 := l1Pick_h w5 w.heap.size a len cap (k2 + 1 + 1) Q5.out.sr [13, 10, 32, 120, 58] 5 rfl (by omega) (by omega) (by omega) hl2
      simp only [List.map_cons, List.map_nil] at H6
      go_wp2_with fail
      refine H6.mono ?_
      rintro e w6 ⟨⟨t, ht, rfl⟩, hs6, hb6, ha6⟩
      have Q6 : Hid (BD w a len cap (k2 + 1 + 1 + 1) (some ⟨g, 0, none⟩) dn dk dl w6) := Q5.out.next hs6 hb6 ha6
      have hm6 := Q6.out.mine.2.1
      have hg6 := Q6.out.mine.2.2
      have hjl : j < dl.length := by have := HDN.out; omega
      have q0 := hm6.at0 j _ (List.getElem?_eq_getElem hjl)
      rw [Nat.zero_add] at q0
      have qf := hm6.free j hjl
      have hw := pick_wrap ht
      have HT : Hid (t ∈ ([13, 10, 32, 120, 58] : List Int)) := ht
      have HM : Hid (BMine w6 g dl) := hm6
      clear hs6 hb6 ha6 H6 Q5 hm6 ht
      go_wp2_with fail
      go_ret
      exact ⟨.put HM.out HDN.out Q6.out.r Q6.out.l (by omega) HT.out, Q6.out.b.setCell (by show w.heap.size ≤ g; omega) _⟩
  · have hdn8 : dn ≤ 10000 := by
      have := Q4.out.l
      have := Q4.out.o.bin.1
      omega
    have hw1 : IntKind.i64.wrap ((dn : Int) + 1) = (dn : Int) + 1 := by rw [IntKind.wrap_i64]; omega
    have H5 := l1Next_h w4 w.heap.size a len cap (k2 + 1) ((dn : Int) + 1) Q4.out.sr (by omega) (by omega) (by omega) hl2
    go_wp2_with fail
    refine H5.mono ?_
    rintro e w5 ⟨⟨y, hy0, hy1, rfl⟩, hs5, hb5, ha5⟩
    have Q5 : Hid (BD w a len cap (k2 + 1 + 1) da dn dk dl w5) := Q4.out.next hs5 hb5 ha5
    obtain ⟨j, rfl⟩ : ∃ j : Nat, y = (j : Int) := ⟨y.toNat, by omega⟩
    clear hs5 hb5 ha5 H5 Q4
    have hr := Q5.out.r
    have hj1 : (j : Int) ≤ (dk : Int) := by omega
    have hj0 : (0 : Int) ≤ (j : Int) := by omega
    rcases Q5.out.shape with ⟨rfl, rfl, rfl⟩ | ⟨g, rfl⟩
    · obtain rfl : j = 0 := by omega
      go_wp2_with fail
      go_ret
      exact Q5.out.done
    · obtain ⟨hdn, hm5, _⟩ := Q5.out.mine
      have HM : Hid (BMine w5 g dl ∧ dn = dl.length) := ⟨hm5, hdn⟩
      clear hm5 hdn
      go_wp2_with fail
      go_ret
      exact ⟨.cut HM.out.1 HM.out.2 Q5.out.r Q5.out.l (by omega), Q5.out.b⟩
  · have n0 : ¬ x = 0 := by omega
    have n1 : ¬ x = 1 := by omega
    have n2 : ¬ x = 2 := by omega
    go_wp2_with fail
    go_ret
    exact Q4.out.done
theorem l1Min_30 (w : World) (n : Int) (hn : 1 ≤ n) : Calls Tryz.prog 52 #[.int .i64 30, .int .i64 n] w fun e w' => ∃ m : Int, 1 ≤ m ∧ m ≤ 30 ∧ m ≤ n ∧ e = .returned (.int .i64 m) ∧ w' = w := by
  by_cases h : (30 : Int) < n
  · go_enter Tryz.func52, Tryz.ntmps52
    go_wp2
    go_ret
    exact ⟨30, by omega, by omega, by omega, rfl, rfl⟩
  · go_enter Tryz.func52, Tryz.ntmps52
    go_wp2
    go_ret
    exact ⟨n, by omega, by omega, by omega, rfl, rfl⟩
set_option maxRecDepth 100000 in
set_option maxHeartbeats 16000000 in
theorem drawReadResponse_any (w : World) (a : Option Addr) (len cap : Nat) (hc : CodeRow w w.heap.size a len) (hl2 : len ≤ 1048576) :
    Calls Tryz.prog 21 #[.slice a len cap] w fun e w' => SomeData e w' ∧ Below w.heap.size w w' := by
  have H1 := l1Source_any w a len cap hc
  have HC : Hid (CodeRow w w.heap.size a len) := hc
  clear hc
  go_enter Tryz.func21, Tryz.ntmps21
  go_wp2_with fail
  refine H1.mono ?_
  rintro e w1 ⟨rfl, hs1, hb1⟩
  clear H1
  have HB1 : Hid (Below w.heap.size w w1) := hb1
  have HS1 : Hid (Src w1 w.heap.size a len cap 0) := hs1
  have H2 := drawRespFault_any w1 a len cap ((HC.out.below hb1).mono hb1.size) hl2
  have hlt1 := hs1.lt
  clear hs1 hb1 HC
  go_wp2_with fail
  refine H2.mono ?_
  rintro e w2 ⟨⟨s, va, vc, M, g, bc, bl, rfl, ho, hM, hsm, hg, hm, hbl⟩, hb2⟩
  have hqi : HdsIn w2 va M := by
    obtain ⟨a', c', e, hi⟩ := ho.at
    simp only [Value.slice.injEq] at e
    rw [e.1]; exact hi
  have HB2 : Hid (Below w.heap.size w w2) := HB1.out.trans (hb2.mono (by omega))
  have HS2 : Hid (Src w2 w.heap.size a len cap 0) := HS1.out.below (hb2.mono (by omega))
  have H3 := specPackResp_cap w2 s va vc M g 0 bc bl (by omega) (by omega) hqi hm.at0
  have hlt2 := HS2.out.lt
  have hBL := respB_len s M bl
  clear H2 HB1 HS1 hb2 ho hsm hqi hm hg hM hbl hlt1
  obtain ⟨mn, hmn⟩ : ∃ n, Hid (M.length = n) := ⟨_, rfl⟩
  obtain ⟨bn, hbn⟩ : ∃ n, Hid (bl.length = n) := ⟨_, rfl⟩
  obtain ⟨dl, hdl⟩ : ∃ n, Hid (respB s M bl = n) := ⟨_, rfl⟩
  rw [hmn.out, hdl.out, hbn.out] at H3
  rw [hdl.out] at hBL
  rw [hmn.out, hbn.out]
  have hf := bfield_bytes
  go_wp2_with fail
  refine H3.mono ?_
  rintro e w3 ⟨⟨da, dn, dk, rfl, hdo, hdk⟩, hb3⟩
  have Q30 : Hid (BD w a len cap 0 da dn dk dl w3) := ⟨HS2.out.below (hb3.mono (by omega)), HB2.out.trans (hb3.mono (by omega)), hdo.lower (by omega), hdk, by omega⟩
  clear H3 hb3 hdo HB2 HS2 hmn hdl hbn
  obtain ⟨k2, hk2, Q3⟩ : ∃ k2, k2 ≤ 10 ∧ Hid (BD w a len cap k2 da dn dk dl w3) := ⟨0, by omega, Q30⟩
  clear Q30
  have H4 := l1Next_h w3 w.heap.size a len cap k2 7 Q3.out.sr (by omega) (by omega) (by omega) hl2
  go_wp2_with fail
  refine H4.mono ?_
  rintro e w4 ⟨⟨x, hx0, hx1, rfl⟩, hs4, hb4, ha4⟩
  have Q4 : Hid (BD w a len cap (k2 + 1) da dn dk dl w4) := Q3.out.next hs4 hb4 ha4
  clear H4 Q3 hs4 hb4 ha4 hlt2
  clear w3 w2 w1
  have hxs : x = 0 ∨ x = 1 ∨ 2 ≤ x := by omega
  rcases hxs with rfl | rfl | hx3
  · have H5 := l1Word_h w4 w.heap.size a len cap (k2 + 1) Q4.out.sr ([⟨#[72, 84, 84, 80, 47, 49, 46, 49, 32, 50, 48, 48, 13, 10, 13, 10]⟩, ⟨#[72, 84, 84, 80, 47, 49, 46, 49, 32, 50, 48, 120, 13, 10, 13, 10]⟩, ⟨#[72, 84, 84, 80, 47, 49, 46, 49, 32, 50, 48, 48, 13, 10, 65, 58, 32, 98, 13, 10]⟩, ⟨#[72, 84, 84, 80, 47, 49, 46, 49, 32, 50, 48, 48, 32, 79, 75, 13, 10, 13, 10]⟩, ⟨#[]⟩, ⟨#[13, 10, 13, 10]⟩, ⟨#[72, 84, 84, 80, 47, 49, 46, 49, 32, 49, 48, 48, 13, 10, 13, 10]⟩, ⟨#[72, 84, 84, 80, 47, 49, 46, 49, 32, 50, 48, 48, 13, 10, 120, 13, 10, 13, 10]⟩] : List ByteArray) 8 rfl (by omega) (by omega) (by omega) hl2
    simp only [List.map_cons, List.map_nil] at H5
    go_wp2_with fail
    refine H5.mono ?_
    rintro e w5 ⟨⟨t, ht, rfl⟩, hs5, hb5, ha5⟩
    have htz := smallH_of ht (by decide)
    obtain ⟨C, cc, hcv, hm⟩ := bytes_of_text2 w5 t
    obtain ⟨X, hX⟩ : ∃ X, X = w5.drew.alloc (.cells C 5 (C.size, C.size + 1)) := ⟨_, rfl⟩
    have bX : Below w5.heap.size w5 X := by rw [hX]; exact ((Below.refl _ _).drew).alloc (Nat.le_refl _) _
    rw [← hX] at hcv hm
    have K : Hid (BFree X w5.heap.size t.data.toList cc ∧ Below w.heap.size w X) := ⟨hm, (Q4.out.b.trans hb5).trans (bX.mono (Q4.out.b.trans hb5).size)⟩
    clear hs5 hb5 ha5 bX hX hm ht H5
    go_wp2_with fail
    go_ret
    exact ⟨.text K.out.1 (by omega), K.out.2⟩
  · by_cases hz : dn = 0
    · subst hz
      go_wp2_with fail
      go_ret
      exact Q4.out.done
    · have hpos : (0 : Int) < (dn : Int) := by omega
      rcases Q4.out.shape with ⟨_, h0, _⟩ | ⟨g, rfl⟩
      · exact absurd h0 hz
      have hdn := Q4.out.mine.1
      have H50 := l1Min_30 w4 (dn : Int) (by omega)
      have HDN : Hid (dn = dl.length) := hdn
      clear hdn
      go_wp2_with fail
      refine H50.mono ?_
      rintro e wx ⟨mm, hm1, hm30, hmd, rfl, rfl⟩
      have H5 := l1Next_h wx w.heap.size a len cap (k2 + 1) mm Q4.out.sr (by omega) (by omega) (by omega) hl2
      clear H50
      go_wp2_with fail
      refine H5.mono ?_
      rintro e w5 ⟨⟨y, hy0, hy1, rfl⟩, hs5, hb5, ha5⟩
      have Q5 : Hid (BD w a len cap (k2 + 1 + 1) (some ⟨g, 0, none⟩) dn dk dl w5) := Q4.out.next hs5 hb5 ha5
      obtain ⟨j, rfl⟩ : ∃ j : Nat, y = (j : Int) := ⟨y.toNat, by omega⟩
      clear hs5 hb5 ha5 H5 Q4
      have H6 := l1Pick_h w5 w.heap.size a len cap (k2 + 1 + 1) Q5.out.sr [13, 10, 32, 120, 58] 5 rfl (by omega) (by omega) (by omega) hl2
      simp only [List.map_cons, List.map_nil] at H6
      go_wp2_with fail
      refine H6.mono ?_
      rintro e w6 ⟨⟨t, ht, rfl⟩, hs6, hb6, ha6⟩
      have Q6 : Hid (BD w a len cap (k2 + 1 + 1 + 1) (some ⟨g, 0, none⟩) dn dk dl w6) := Q5.out.next hs6 hb6 ha6
      have hm6 := Q6.out.mine.2.1
      have hg6 := Q6.out.mine.2.2
      have hjl : j < dl.length := by have := HDN.out; omega
      have q0 := hm6.at0 j _ (List.getElem?_eq_getElem hjl)
      rw [Nat.zero_add] at q0
      have qf := hm6.free j hjl
      have hw := pick_wrap ht
      have HT : Hid (t ∈ ([13, 10, 32, 120, 58] : List Int)) := ht
      have HM : Hid (BMine w6 g dl) := hm6
      clear hs6 hb6 ha6 H6 Q5 hm6 ht
      go_wp2_with fail
      go_ret
      exact ⟨.put HM.out HDN.out Q6.out.r Q6.out.l (by omega) HT.out, Q6.out.b.setCell (by show w.heap.size ≤ g; omega) _⟩
  · have n0 : ¬ x = 0 := by omega
    have n1 : ¬ x = 1 := by omega
    go_wp2_with fail
    go_ret
    exact Q4.out.done
end Go.Proofs.YtonnggelpjjmmaaGreatDoor
/-
  Requests and responses packed, their lines and bodies nil or not.
-/
namespace Go.Proofs.YtonnggelpjjmmaaGreatDoor
open Go.ChangeShapes Go.WideShapes Go.ChangeAt Go.RowKit
theorem append_zero {P : Program} (w : World) (t ty e : TypeId) (i : TypeInfo) (ht : P.underlying t = some (.slice e)) (hi : P.info? e = some i) (base : Option Addr) (n k : Nat) (hle : n ≤ k) (pb : Option Addr) (c : Nat) :
    (Builtin.append_ #[t, t] ty #[.slice base n k, .slice pb 0 c]).run P w = .ok (.slice base n k) w := by
  cases base <;> cases pb <;> simp [Builtin.append_, run_underlying ht, sizeOf, typeInfo, hi, Builtin.lenOf, Builtin.firstCells, hle, storeCells, loadCells, loadCellsFrom]
theorem wpList_append_hdrs_in {ops : Array Oper} {rest : List Oper} {o : Oper} {a : Act} {Q : Exit → Act → World → Prop} (w : World) (hgd : o.guard = none) (s x : Operand)
    (ho : o.op = .call { callee := .builtin .append, args := #[s, x], argTypes := #[24, 24] }) (base : Nat) (v : Value) (l0 : List Hdr) (pa : Option Addr) (cap : Nat) (l : List Hdr)
    (hs : a.eval s = v) (hx : a.eval x = .slice pa l.length cap) (hown : OwnH w base v l0) (hat : HdsIn w pa l) (hl : l0.length + l.length ≤ 1000000) (hbase : base ≤ w.heap.size)
    (h : ∀ v' w', OwnH w' base v' (l0 ++ l) → Below base w w' → w.heap.size ≤ w'.heap.size → wpList Tryz.prog ops Q rest (a.put o.dst v') w') :
    wpList Tryz.prog ops Q (o :: rest) a w := by
  rcases hat with rfl | ⟨b, off, rfl, hat⟩
  · obtain ⟨i0, hi, _⟩ := info_parts infoHeader
    obtain ⟨va, vc, rfl, hle⟩ : ∃ va vc, v = .slice va l0.length vc ∧ l0.length ≤ vc := by
      obtain ⟨_, h1 | ⟨g, c2, cur, e2, _, _, hc2, _⟩⟩ := hown
      · have e : l0 = [] := List.eq_nil_of_length_eq_zero h1.2
        subst e
        exact ⟨none, 0, h1.1, Nat.le_refl _⟩
      · exact ⟨_, c2, e2, hc2⟩
    refine wpList_plain hgd fun K hK => ?_
    unfold Oper.wp execOp
    simp only [ho, resolve, invoke, builtin, Sem.run_bind, Sem.run_pure, Result.andThen_ok, List.map_toArray, List.map_cons, List.map_nil, hs, hx, List.length_nil]
    rw [append_zero w 24 _ 58 i0 Tryz.underlying24 hi va l0.length vc hle pa cap]
    exact hK _ _ (h _ w (by simpa using hown) (Below.refl _ _) (Nat.le_refl _))
  · exact wpList_append_hdrs w hgd s x ho base v l0 b off cap l hs hx hown hat hl hbase h
theorem wpList_append_bytes_in {ops : Array Oper} {rest : List Oper} {o : Oper} {a : Act} {Q : Exit → Act → World → Prop} (w : World) (hgd : o.guard = none) (s x : Operand)
    (ho : o.op = .call { callee := .builtin .append, args := #[s, x], argTypes := #[22, 22] }) (base g kc : Nat) (l : List UInt8) (hs : a.eval s = .slice (some ⟨g, 0, none⟩) l.length kc) (hf : BFree w g l kc) (hbg : base ≤ g) (hbw : base ≤ w.heap.size)
    (pb : Option Addr) (cb : Nat) (bl : List UInt8) (hx : a.eval x = .slice pb bl.length cb) (hbl : BIn w pb bl) (hl : l.length + bl.length ≤ 1000000)
    (h : ∀ a' k' w', BOwn w' base (.slice a' (l ++ bl).length k') (l ++ bl) → Below base w w' → w.heap.size ≤ w'.heap.size → wpList Tryz.prog ops Q rest (a.put o.dst (.slice a' (l ++ bl).length k')) w') :
    wpList Tryz.prog ops Q (o :: rest) a w := by
  rcases hbl with rfl | ⟨b, off, rfl, hat⟩
  · obtain ⟨i0, hi⟩ : ∃ i, Tryz.prog.info? 5 = some i := Option.isSome_iff_exists.1 (by kernel_rfl)
    refine wpList_plain hgd fun K hK => ?_
    unfold Oper.wp execOp
    simp only [ho, resolve, invoke, builtin, Sem.run_bind, Sem.run_pure, Result.andThen_ok, List.map_toArray, List.map_cons, List.map_nil, hs, hx, List.length_nil]
    rw [append_zero w 22 _ 5 i0 Tryz.underlying22 hi (some ⟨g, 0, none⟩) l.length kc hf.le pb cb]
    have := h (some ⟨g, 0, none⟩) kc w (by rw [List.append_nil]; exact .inr ⟨g, kc, rfl, hbg, ⟨hf.at0, fun o ho => hf.free o (by have := hf.le; omega), hf.lt⟩⟩) (Below.refl _ _) (Nat.le_refl _)
    rw [List.append_nil] at this
    exact hK _ _ this
  · exact wpList_append_bytes w hgd s x ho base g kc l hs hf hbg hbw b off cb bl hx hat hl h
set_option maxRecDepth 100000 in
set_option maxHeartbeats 8000000 in
theorem implPackReq_in (E : Errs) (w : World) (m h p : ByteArray) (pa : Option Addr) (cap : Nat) (l : List Hdr) (hl : l.length ≤ 1048576) (hcap : l.length ≤ cap) (hps : p.size ≤ 1048576) (hset : SetIs w) (hE : ErrsIs w E) (hat : HdsIn w pa l) :
    Calls Tryz.prog 8 #[.agg #[.string m, .string h, .string p, .slice pa l.length cap]] w fun e w' => BGot (reqC m h p l) (reqB m h p l) w.heap.size e w' ∧ Below w.heap.size w w' := by
  obtain ⟨W, hW⟩ : ∃ W, W = (w.alloc (.cells #[.string m, .string h, .string p, .slice pa l.length cap] 26)).alloc (.cells #[.int .i64 0, .slice none 0 0] 29) := ⟨_, rfl⟩
  have HW : Hid (W = (w.alloc (.cells #[.string m, .string h, .string p, .slice pa l.length cap] 26)).alloc (.cells #[.int .i64 0, .slice none 0 0] 29)) := hW
  have bW : Below w.heap.size w W := by rw [hW]; exact ((Below.refl _ _).alloc (Nat.le_refl _) _).alloc (by simp) _
  have f0 : Four W w.heap.size (.string m) (.string h) (.string p) (.slice pa l.length cap) := by rw [hW]; exact (Four.new _ _ _ _ _ _).keep ((Below.refl _ _).alloc (Nat.le_refl _) _)
  have t0 : Two W (w.heap.size + 1) (.int .i64 0) (.slice none 0 0) := by
    rw [hW]
    have := Two.new (w.alloc (.cells #[.string m, .string h, .string p, .slice pa l.length cap] 26)) (.int .i64 0) (.slice none 0 0) 29
    simpa using this
  have C := implReq_any E W m h p _ cap l hl hcap hps (hset.below bW) (hE.below bW) (hat.keep bW)
  have K0 : Hid (Below w.heap.size w W ∧ Four W w.heap.size (.string m) (.string h) (.string p) (.slice pa l.length cap) ∧ Two W (w.heap.size + 1) (.int .i64 0) (.slice none 0 0)) := ⟨bW, f0, t0⟩
  have HI : Hid (∀ X, Below w.heap.size w X → HdsIn X pa l ∧ SetIs X) := fun X hb => ⟨hat.keep hb, hset.below hb⟩
  clear hW bW f0 t0 hat hset hE
  have hc3 := K0.out.2.1.c3
  rw [HW.out] at hc3
  go_enter Tryz.func8, Tryz.ntmps8
  go_wp2_with fail
  rw [← HW.out]
  refine C.mono ?_
  rintro e w1 ⟨rfl, hb1⟩
  have K1 : Hid (Below w.heap.size w w1 ∧ Four w1 w.heap.size (.string m) (.string h) (.string p) (.slice pa l.length cap) ∧ Two w1 (w.heap.size + 1) (.int .i64 0) (.slice none 0 0)) := ⟨K0.out.1.trans (hb1.mono K0.out.1.size), K0.out.2.1.keep hb1, K0.out.2.2.keep hb1⟩
  clear C hb1 K0 HW hc3
  by_cases c0 : reqC m h p l = 0
  · have HB0 : Hid (reqB m h p l = reqL m h p l) := by show _ = _; rw [reqB, if_pos c0]
    obtain ⟨y1, y2, y3, y4⟩ := reqC_zero c0
    obtain ⟨z1, z2, z3⟩ := method_size y1
    have HHL : Hid (headsC (⟨hostT, h⟩ :: l) = 0) := host_heads (lineS_true y1).2.1 y2 y4
    have hpl := packL_len HHL.out
    obtain ⟨t, ht⟩ : ∃ t : ByteArray, t = ⟨(packL (⟨hostT, h⟩ :: l)).toArray⟩ := ⟨_, rfl⟩
    have hts : t.size ≤ 6000 := by
      rw [ht]; show (packL (⟨hostT, h⟩ :: l)).toArray.size ≤ 6000; rw [List.size_toArray]
      simp only [List.length_cons] at hpl; omega
    have HP : Hid (∀ X v, Below w.heap.size w X → OwnH X w1.heap.size v (⟨hostT, h⟩ :: l) → Calls Tryz.prog 31 #[v] X fun e w' => e = .returned (.agg #[.int .i64 0, .string t]) ∧ Below X.heap.size X w') := fun X v hb ho => by
      obtain ⟨a', c', e', hi'⟩ := ho.at
      rw [e', ht]
      exact implPack_ok X a' c' _ HHL.out (HI.out X hb).2 hi'
    have HTL : Hid (∀ x : ByteArray, x = m ++ ⟨#[32]⟩ ++ p ++ ⟨#[32]⟩ ++ ⟨#[72, 84, 84, 80, 47, 49, 46, 49]⟩ ++ ⟨#[13, 10]⟩ ++ t ++ ⟨#[13, 10]⟩ → x.data.toList = reqL m h p l) := fun x hx => by
      rw [hx, ht]
      simp only [reqL, verL, happ_list]
    obtain ⟨x1, hx1⟩ : ∃ x : ByteArray, x = m ++ ⟨#[32]⟩ := ⟨_, rfl⟩
    have sx1 : x1.size = (m).size + (⟨#[32]⟩ : ByteArray).size := by rw [hx1, ByteArray.size_append]
    obtain ⟨x2, hx2⟩ : ∃ x : ByteArray, x = x1 ++ p := ⟨_, rfl⟩
    have sx2 : x2.size = (x1).size + (p : ByteArray).size := by rw [hx2, ByteArray.size_append]
    obtain ⟨x3, hx3⟩ : ∃ x : ByteArray, x = x2 ++ ⟨#[32]⟩ := ⟨_, rfl⟩
    have sx3 : x3.size = (x2).size + (⟨#[32]⟩ : ByteArray).size := by rw [hx3, ByteArray.size_append]
    obtain ⟨x4, hx4⟩ : ∃ x : ByteArray, x = x3 ++ ⟨#[72, 84, 84, 80, 47, 49, 46, 49]⟩ := ⟨_, rfl⟩
    have sx4 : x4.size = (x3).size + (⟨#[72, 84, 84, 80, 47, 49, 46, 49]⟩ : ByteArray).size := by rw [hx4, ByteArray.size_append]
    obtain ⟨x5, hx5⟩ : ∃ x : ByteArray, x = x4 ++ ⟨#[13, 10]⟩ := ⟨_, rfl⟩
    have sx5 : x5.size = (x4).size + (⟨#[13, 10]⟩ : ByteArray).size := by rw [hx5, ByteArray.size_append]
    obtain ⟨x6, hx6⟩ : ∃ x : ByteArray, x = x5 ++ t := ⟨_, rfl⟩
    have sx6 : x6.size = (x5).size + (t : ByteArray).size := by rw [hx6, ByteArray.size_append]
    obtain ⟨x7, hx7⟩ : ∃ x : ByteArray, x = x6 ++ ⟨#[13, 10]⟩ := ⟨_, rfl⟩
    have sx7 : x7.size = (x6).size + (⟨#[13, 10]⟩ : ByteArray).size := by rw [hx7, ByteArray.size_append]
    have lit1 : (⟨#[32]⟩ : ByteArray).size = 1 := rfl
    have lit2 : (⟨#[13, 10]⟩ : ByteArray).size = 2 := rfl
    have lit3 : (⟨#[72, 84, 84, 80, 47, 49, 46, 49]⟩ : ByteArray).size = 8 := rfl
    have add1 : ∀ X, (Op.stringOp .add m ⟨#[32]⟩).run Tryz.prog X = .ok (.string x1) X := fun X => by rw [hx1]; exact run_string_add_sum X _ _ (by omega)
    have add2 : ∀ X, (Op.stringOp .add x1 p).run Tryz.prog X = .ok (.string x2) X := fun X => by rw [hx2]; exact run_string_add_sum X _ _ (by omega)
    have add3 : ∀ X, (Op.stringOp .add x2 ⟨#[32]⟩).run Tryz.prog X = .ok (.string x3) X := fun X => by rw [hx3]; exact run_string_add_sum X _ _ (by omega)
    have add4 : ∀ X, (Op.stringOp .add x3 ⟨#[72, 84, 84, 80, 47, 49, 46, 49]⟩).run Tryz.prog X = .ok (.string x4) X := fun X => by rw [hx4]; exact run_string_add_sum X _ _ (by omega)
    have add5 : ∀ X, (Op.stringOp .add x4 ⟨#[13, 10]⟩).run Tryz.prog X = .ok (.string x5) X := fun X => by rw [hx5]; exact run_string_add_sum X _ _ (by omega)
    have add6 : ∀ X, (Op.stringOp .add x5 t).run Tryz.prog X = .ok (.string x6) X := fun X => by rw [hx6]; exact run_string_add_sum X _ _ (by omega)
    have add7 : ∀ X, (Op.stringOp .add x6 ⟨#[13, 10]⟩).run Tryz.prog X = .ok (.string x7) X := fun X => by rw [hx7]; exact run_string_add_sum X _ _ (by omega)
    have HX7 : Hid (x7.data.toList = reqL m h p l) := HTL.out x7 (by rw [hx7, hx6, hx5, hx4, hx3, hx2, hx1])
    clear hx1 hx2 hx3 hx4 hx5 hx6 hx7 lit1 lit2 lit3 sx1 sx2 sx3 sx4 sx5 sx6 sx7 HTL z1 z2 z3 hts
    have r1 := K1.out.2.1.c1
    have aA : Below w1.heap.size w1 (w1.alloc (.cells #[.string ⟨#[72, 111, 115, 116]⟩, .string h] 58)) := (Below.refl _ _).alloc (Nat.le_refl _) _
    have KA : Hid (Below w.heap.size w (w1.alloc (.cells #[.string ⟨#[72, 111, 115, 116]⟩, .string h] 58)) ∧ Four (w1.alloc (.cells #[.string ⟨#[72, 111, 115, 116]⟩, .string h] 58)) w.heap.size (.string m) (.string h) (.string p) (.slice pa l.length cap) ∧ Two (w1.alloc (.cells #[.string ⟨#[72, 111, 115, 116]⟩, .string h] 58)) (w.heap.size + 1) (.int .i64 0) (.slice none 0 0)) := ⟨K1.out.1.trans (aA.mono K1.out.1.size), K1.out.2.1.keep aA, K1.out.2.2.keep aA⟩
    have r3 := KA.out.2.1.c3
    clear aA
    have HL1 : Hid (w.heap.size + 1 < w1.heap.size) := K1.out.2.2.lt
    have HA1 : Hid (HdsIn (w1.alloc (.cells #[.string ⟨#[72, 111, 115, 116]⟩, .string h] 58)) pa l) := (HI.out _ K1.out.1).1.keep ((Below.refl _ _).alloc (Nat.le_refl _) _)
    have HO1 : Hid (OwnH (w1.alloc (.cells #[.string ⟨#[72, 111, 115, 116]⟩, .string h] 58)) w1.heap.size (.slice (some ⟨w1.heap.size, 0, none⟩) 1 1) [⟨hostT, h⟩]) := OwnH.one w1 hostT h
    rw [c0]
    have HC0 : Hid (reqC m h p l = 0) := c0
    clear ht y1 y2 y3 c0
    have hln : l.length ≤ 1000 := by omega
    go_wp2_with (at_builtin; refine wpList_append_hdrs_in _ rfl (.tmp 15) (.tmp 17) rfl w1.heap.size (.slice (some ⟨w1.heap.size, 0, none⟩) 1 1) [⟨hostT, h⟩] pa cap l rfl rfl HO1.out HA1.out (by simp only [List.length_cons, List.length_nil]; omega) (by simp) ?_; intro v2 w2 ho2 hb2 hs2; have K2 : Hid ((Below w.heap.size w w2 ∧ Four w2 w.heap.size (.string m) (.string h) (.string p) (.slice pa l.length cap) ∧ Two w2 (w.heap.size + 1) (.int .i64 0) (.slice none 0 0)) ∧ OwnH w2 w1.heap.size v2 (⟨hostT, h⟩ :: l)) := ⟨⟨KA.out.1.trans (hb2.mono (by have := HL1.out; omega)), KA.out.2.1.keepB (by have := HL1.out; omega) hb2, KA.out.2.2.keepB HL1.out hb2⟩, ho2⟩; obtain ⟨s0, s1, s2, s3, _, _⟩ := K2.out.1.2.1; clear ho2 hb2 hs2 r1 r3 s1 s3)
    have C6 := HP.out w2 v2 K2.out.1.1 K2.out.2
    clear HP HO1 HA1 KA K1
    refine C6.mono ?_
    rintro e w3 ⟨rfl, hb3⟩
    have K3 : Hid (Below w.heap.size w w3 ∧ Two w3 (w.heap.size + 1) (.int .i64 0) (.slice none 0 0)) := ⟨K2.out.1.1.trans (hb3.mono K2.out.1.1.size), K2.out.1.2.2.keep hb3⟩
    clear C6 hb3 K2 s0 s2
    obtain ⟨C, kc, hcv, hbm⟩ := bytes_of_text w3 x7
    obtain ⟨X, hX⟩ : ∃ X, X = w3.drew.alloc (.cells C 5 (C.size, C.size + 1)) := ⟨_, rfl⟩
    have HX : Hid (Below w3.heap.size w3 X) := by show Below _ _ _; rw [hX]; exact ((Below.refl _ _).drew).alloc (Nat.le_refl _) _
    rw [← hX] at hcv hbm
    have HM : Hid (BMine X w3.heap.size x7.data.toList) := hbm
    clear hbm hX
    obtain ⟨r0, r1, rf, _⟩ := K3.out.2.keep HX.out
    have rf0 := rf 0
    have rf1 := rf 1
    clear rf
    have hft := f_field_text
    go_wp2_with fail
    have T2 := two_put (v0 := .int .i64 0) (v1 := .slice (some ⟨w3.heap.size, 0, none⟩) x7.size kc) (K3.out.2.keep HX.out)
    have bx0 := K3.out.1.trans (HX.out.mono K3.out.1.size)
    have hw3 : w.heap.size + 1 < w3.heap.size := K3.out.2.lt
    refine bodyPost_ret (v := .agg #[.int .i64 0, .slice (some ⟨w3.heap.size, 0, none⟩) x7.size kc]) (by simp [results, Tryz.results8, go_sem, T2.c0, T2.c1]) rfl ⟨⟨_, _, _, (by rw [HC0.out]), .inr ⟨w3.heap.size, kc, ?_, ?_, ?_⟩⟩, (bx0.setCell (by simp) _).setCell (by simp) _⟩
    · rw [HB0.out, ← HX7.out]; congr 1
    · exact K3.out.1.size
    · rw [HB0.out, ← HX7.out]
      exact HM.out.put _ _ (by omega)
  · have HB0 : Hid (reqB m h p l = []) := by show _ = _; rw [reqB, if_neg c0]
    have HF : Hid (∀ e w', e = .returned (.agg #[.int .i64 (reqC m h p l), .slice none 0 0]) → BGot (reqC m h p l) (reqB m h p l) w.heap.size e w') := fun e w' he => by subst he; rw [HB0.out]; exact BGot.nil _ _ _
    obtain ⟨t0, t1, tf, _⟩ := K1.out.2.2
    have tf0 := tf 0
    have tf1 := tf 1
    have HB1 : Hid (Below w.heap.size w w1) := K1.out.1
    have T2 : Hid (Two ((w1.setCell ⟨w.heap.size + 1, 0, none⟩ (.int .i64 (reqC m h p l))).setCell ⟨w.heap.size + 1, 1, none⟩ (.slice none 0 0)) (w.heap.size + 1) (.int .i64 (reqC m h p l)) (.slice none 0 0)) := two_put K1.out.2.2
    clear K1 HI HB0 tf
    obtain ⟨c, hcc⟩ : ∃ c, reqC m h p l = c := ⟨_, rfl⟩
    obtain ⟨bb, hbb⟩ : ∃ bb, reqB m h p l = bb := ⟨_, rfl⟩
    have HCC : Hid (reqC m h p l = c ∧ reqB m h p l = bb) := ⟨hcc, hbb⟩
    rw [hcc] at HF T2 c0 ⊢
    rw [hbb] at HF
    clear hcc hbb
    generalize l.length = n at *
    go_wp2_with fail
    exact bodyPost_ret (v := .agg #[.int .i64 c, .slice none 0 0]) (by simp [results, Tryz.results8, go_sem, T2.out.c0, T2.out.c1]) rfl ⟨by rw [HCC.out.1, HCC.out.2]; exact HF.out _ _ rfl, (HB1.out.setCell (by simp) _).setCell (by simp) _⟩
set_option maxRecDepth 100000 in
set_option maxHeartbeats 8000000 in
theorem implPackResp_in (E : Errs) (w : World) (s : Int) (a : Option Addr) (cap : Nat) (l : List Hdr) (pb : Option Addr) (bc : Nat) (bl : List UInt8) (hl : l.length ≤ 1048576) (hbl : bl.length ≤ 1048576) (hset : SetIs w) (hE : ErrsIs w E) (hpow : num.PowIs w) (hi : HdsIn w a l) (hb : BIn w pb bl) :
    Calls Tryz.prog 10 #[.agg #[.int .i64 s, .slice a l.length cap, .slice pb bl.length bc]] w fun e w' => BGot (respC s l bl.length) (respB s l bl) w.heap.size e w' ∧ Below w.heap.size w w' := by
  obtain ⟨W, hW⟩ : ∃ W, W = (w.alloc (.cells #[.int .i64 s, .slice a l.length cap, .slice pb bl.length bc] 32)).alloc (.cells #[.int .i64 0, .slice none 0 0] 29) := ⟨_, rfl⟩
  have HW : Hid (W = (w.alloc (.cells #[.int .i64 s, .slice a l.length cap, .slice pb bl.length bc] 32)).alloc (.cells #[.int .i64 0, .slice none 0 0] 29)) := hW
  have bW : Below w.heap.size w W := by rw [hW]; exact ((Below.refl _ _).alloc (Nat.le_refl _) _).alloc (by simp) _
  have f0 : Three W w.heap.size (.int .i64 s) (.slice a l.length cap) (.slice pb bl.length bc) := by rw [hW]; exact (Three.new _ _ _ _ _).keep ((Below.refl _ _).alloc (Nat.le_refl _) _)
  have t0 : Two W (w.heap.size + 1) (.int .i64 0) (.slice none 0 0) := by
    rw [hW]
    have := Two.new (w.alloc (.cells #[.int .i64 s, .slice a l.length cap, .slice pb bl.length bc] 32)) (.int .i64 0) (.slice none 0 0) 29
    simpa using this
  have C := implResp_any E W s a cap l pb bl.length bc hl hbl (hset.below bW) (hE.below bW) (hi.keep bW)
  have K0 : Hid (Below w.heap.size w W ∧ Three W w.heap.size (.int .i64 s) (.slice a l.length cap) (.slice pb bl.length bc) ∧ Two W (w.heap.size + 1) (.int .i64 0) (.slice none 0 0)) := ⟨bW, f0, t0⟩
  have HI : Hid (∀ X, Below w.heap.size w X → (HdsIn X a l ∧ BIn X pb bl) ∧ SetIs X ∧ num.PowIs X) := fun X hx => ⟨⟨hi.keep hx, hb.keep hx⟩, hset.below hx, hpow.below hx⟩
  clear hW bW f0 t0 hi hb hset hE hpow
  have hc1 := K0.out.2.1.c1
  have hc2 := K0.out.2.1.c2
  rw [HW.out] at hc1 hc2
  go_enter Tryz.func10, Tryz.ntmps10
  go_wp2_with fail
  rw [← HW.out]
  refine C.mono ?_
  rintro e w1 ⟨rfl, hb1⟩
  have K1 : Hid (Below w.heap.size w w1 ∧ Three w1 w.heap.size (.int .i64 s) (.slice a l.length cap) (.slice pb bl.length bc) ∧ Two w1 (w.heap.size + 1) (.int .i64 0) (.slice none 0 0)) := ⟨K0.out.1.trans (hb1.mono K0.out.1.size), K0.out.2.1.keep hb1, K0.out.2.2.keep hb1⟩
  clear C hb1 K0 HW hc1 hc2
  by_cases c0 : respC s l bl.length = 0
  · have HB0 : Hid (respB s l bl = respL s l bl) := by show _ = _; rw [respB, if_pos c0]
    obtain ⟨y1, y2, y3, y4⟩ := respC_zero c0
    have hpl := packL_len y3
    obtain ⟨s1, s2⟩ := heads_sizes y3
    obtain ⟨t, ht⟩ : ∃ t : ByteArray, t = ⟨(packL l).toArray⟩ := ⟨_, rfl⟩
    have hts : t.size ≤ 6000 := by
      rw [ht]; show (packL l).toArray.size ≤ 6000; rw [List.size_toArray]; omega
    obtain ⟨d, hd⟩ : ∃ d : ByteArray, d = num.numT s := ⟨_, rfl⟩
    have hds : d.size ≤ 100 := by rw [hd]; exact numT_small s y1 y2
    have HD : Hid (∀ X, Below w.heap.size w X → Calls Tryz.prog 33 #[.int .i64 s] X fun e w' => e = .returned (.agg #[.int .i64 0, .string d]) ∧ Below X.heap.size X w') := fun X hb => by rw [hd]; exact num.implNum_any s X (by omega) (by omega) (HI.out X hb).2.2
    have HP : Hid (∀ X, Below w.heap.size w X → Calls Tryz.prog 31 #[.slice a l.length cap] X fun e w' => e = .returned (.agg #[.int .i64 0, .string t]) ∧ Below X.heap.size X w') := fun X hb => by rw [ht]; exact implPack_ok X a cap l y3 (HI.out X hb).2.1 (HI.out X hb).1.1
    obtain ⟨x1, hx1⟩ : ∃ x : ByteArray, x = ⟨#[72, 84, 84, 80, 47, 49, 46, 49, 32]⟩ ++ d := ⟨_, rfl⟩
    have sx1 : x1.size = (⟨#[72, 84, 84, 80, 47, 49, 46, 49, 32]⟩ : ByteArray).size + (d : ByteArray).size := by rw [hx1, ByteArray.size_append]
    obtain ⟨x2, hx2⟩ : ∃ x : ByteArray, x = x1 ++ ⟨#[13, 10]⟩ := ⟨_, rfl⟩
    have sx2 : x2.size = (x1 : ByteArray).size + (⟨#[13, 10]⟩ : ByteArray).size := by rw [hx2, ByteArray.size_append]
    obtain ⟨x3, hx3⟩ : ∃ x : ByteArray, x = x2 ++ t := ⟨_, rfl⟩
    have sx3 : x3.size = (x2 : ByteArray).size + (t : ByteArray).size := by rw [hx3, ByteArray.size_append]
    obtain ⟨x4, hx4⟩ : ∃ x : ByteArray, x = x3 ++ ⟨#[13, 10]⟩ := ⟨_, rfl⟩
    have sx4 : x4.size = (x3 : ByteArray).size + (⟨#[13, 10]⟩ : ByteArray).size := by rw [hx4, ByteArray.size_append]
    have lit2 : (⟨#[13, 10]⟩ : ByteArray).size = 2 := rfl
    have lit3 : (⟨#[72, 84, 84, 80, 47, 49, 46, 49, 32]⟩ : ByteArray).size = 9 := rfl
    have add1 : ∀ X, (Op.stringOp .add ⟨#[72, 84, 84, 80, 47, 49, 46, 49, 32]⟩ d).run Tryz.prog X = .ok (.string x1) X := fun X => by rw [hx1]; exact run_string_add_sum X _ _ (by omega)
    have add2 : ∀ X, (Op.stringOp .add x1 ⟨#[13, 10]⟩).run Tryz.prog X = .ok (.string x2) X := fun X => by rw [hx2]; exact run_string_add_sum X _ _ (by omega)
    have add3 : ∀ X, (Op.stringOp .add x2 t).run Tryz.prog X = .ok (.string x3) X := fun X => by rw [hx3]; exact run_string_add_sum X _ _ (by omega)
    have add4 : ∀ X, (Op.stringOp .add x3 ⟨#[13, 10]⟩).run Tryz.prog X = .ok (.string x4) X := fun X => by rw [hx4]; exact run_string_add_sum X _ _ (by omega)
    have HX4 : Hid (x4.data.toList = respH s l) := by
      show _ = _
      rw [hx4, hx3, hx2, hx1, hd, ht]
      simp only [respH, verL, happ_list]
      simp
    have hx4s : x4.data.toList.length ≤ 7000 := by
      have : x4.data.toList.length = x4.size := by simp
      omega
    have HLL : Hid (x4.size = x4.data.toList.length) := by show _ = _; simp
    clear hx1 hx2 hx3 hx4 lit2 lit3 sx1 sx2 sx3 sx4 hts hds hd ht s1 s2 hpl
    rw [c0]
    have HC0 : Hid (respC s l bl.length = 0) := c0
    clear c0 y3
    have q0 := K1.out.2.1.c0
    have C2 := HD.out w1 K1.out.1
    go_wp2_with fail
    refine C2.mono ?_
    rintro e wa ⟨rfl, hba⟩
    have KA : Hid (Below w.heap.size w wa ∧ Three wa w.heap.size (.int .i64 s) (.slice a l.length cap) (.slice pb bl.length bc) ∧ Two wa (w.heap.size + 1) (.int .i64 0) (.slice none 0 0)) := ⟨K1.out.1.trans (hba.mono K1.out.1.size), K1.out.2.1.keep hba, K1.out.2.2.keep hba⟩
    clear C2 hba q0 K1 HD
    have hft := f_field_text
    have q1 := KA.out.2.1.c1
    have C3 := HP.out wa KA.out.1
    go_wp2_with fail
    refine C3.mono ?_
    rintro e wb ⟨rfl, hbb⟩
    have KB : Hid (Below w.heap.size w wb ∧ Three wb w.heap.size (.int .i64 s) (.slice a l.length cap) (.slice pb bl.length bc) ∧ Two wb (w.heap.size + 1) (.int .i64 0) (.slice none 0 0)) := ⟨KA.out.1.trans (hbb.mono KA.out.1.size), KA.out.2.1.keep hbb, KA.out.2.2.keep hbb⟩
    clear C3 hbb q1 KA HP
    obtain ⟨C, kc, hcv, hbm⟩ := bytes_of_text2 wb x4
    obtain ⟨w3, hX⟩ : ∃ X, X = wb.drew.alloc (.cells C 5 (C.size, C.size + 1)) := ⟨_, rfl⟩
    have hbx : Below wb.heap.size wb w3 := by rw [hX]; exact ((Below.refl _ _).drew).alloc (Nat.le_refl _) _
    rw [← hX] at hcv hbm
    have K3 : Hid (Below w.heap.size w w3 ∧ Three w3 w.heap.size (.int .i64 s) (.slice a l.length cap) (.slice pb bl.length bc) ∧ Two w3 (w.heap.size + 1) (.int .i64 0) (.slice none 0 0)) := ⟨KB.out.1.trans (hbx.mono KB.out.1.size), KB.out.2.1.keep hbx, KB.out.2.2.keep hbx⟩
    obtain ⟨g, hg⟩ : ∃ g, g = wb.heap.size := ⟨_, rfl⟩
    rw [← hg] at hcv hbm
    have HFR : Hid (BFree w3 g x4.data.toList kc ∧ wb.heap.size ≤ g ∧ w.heap.size + 1 < wb.heap.size) := ⟨hbm, by omega, KB.out.2.2.lt⟩
    clear hbm hX hbx KB hg
    have q2 := K3.out.2.1.c2
    rw [HLL.out] at hcv
    have HBL : Hid (BIn w3 pb bl) := (HI.out _ K3.out.1).1.2
    go_wp2_with (at_builtin; refine wpList_append_bytes_in _ rfl (.tmp 26) (.tmp 28) rfl (w.heap.size + 2) g kc x4.data.toList rfl HFR.out.1 (by have := HFR.out; omega) (by have := K3.out.2.2.lt; omega) pb bc bl rfl HBL.out (by omega) ?_; intro a4 k4 w4 ho4 hb4 hs4; have K4 : Hid (Below w.heap.size w w4 ∧ Two w4 (w.heap.size + 1) (.int .i64 0) (.slice none 0 0) ∧ BOwn w4 (w.heap.size + 2) (.slice a4 (x4.data.toList ++ bl).length k4) (x4.data.toList ++ bl)) := ⟨K3.out.1.trans (hb4.mono (by omega)), ⟨(by rw [hb4.cell (p := ⟨w.heap.size + 1, 0, none⟩) (Nat.lt_succ_self _)]; exact K3.out.2.2.c0), (by rw [hb4.cell (p := ⟨w.heap.size + 1, 1, none⟩) (Nat.lt_succ_self _)]; exact K3.out.2.2.c1), (fun o => by rw [hb4.frozen (p := ⟨w.heap.size + 1, o, none⟩) (Nat.lt_succ_self _)]; exact K3.out.2.2.fr o), Nat.lt_of_lt_of_le K3.out.2.2.lt hs4⟩, ho4⟩; obtain ⟨r0, r1, rf, _⟩ := K4.out.2.1; have rf0 := rf 0; have rf1 := rf 1; clear rf ho4 hb4 hs4 q2; generalize (x4.data.toList ++ bl).length = nn at *)
    have T2 := two_put (v0 := .int .i64 0) (v1 := .slice a4 nn k4) K4.out.2.1
    refine bodyPost_ret (v := .agg #[.int .i64 0, .slice a4 nn k4]) (by simp [results, Tryz.results10, go_sem, T2.c0, T2.c1]) rfl ⟨⟨_, _, _, (by rw [HC0.out]), ?_⟩, (K4.out.1.setCell (by simp) _).setCell (by simp) _⟩
    rw [HB0.out, show respL s l bl = x4.data.toList ++ bl from by rw [HX4.out]; rfl]
    rcases K4.out.2.2 with ⟨e, he⟩ | ⟨g', k', e, hg', hm'⟩
    · exact .inl ⟨e, he⟩
    · exact .inr ⟨g', k', e, by omega, hm'.put _ _ (by omega)⟩
  · have HB0 : Hid (respB s l bl = []) := by show _ = _; rw [respB, if_neg c0]
    have HF : Hid (∀ e w', e = .returned (.agg #[.int .i64 (respC s l bl.length), .slice none 0 0]) → BGot (respC s l bl.length) (respB s l bl) w.heap.size e w') := fun e w' he => by subst he; rw [HB0.out]; exact BGot.nil _ _ _
    obtain ⟨t0, t1, tf, _⟩ := K1.out.2.2
    have tf0 := tf 0
    have tf1 := tf 1
    have HB1 : Hid (Below w.heap.size w w1) := K1.out.1
    have T2 : Hid (Two ((w1.setCell ⟨w.heap.size + 1, 0, none⟩ (.int .i64 (respC s l bl.length))).setCell ⟨w.heap.size + 1, 1, none⟩ (.slice none 0 0)) (w.heap.size + 1) (.int .i64 (respC s l bl.length)) (.slice none 0 0)) := two_put K1.out.2.2
    clear K1 HI HB0 tf
    obtain ⟨c, hcc⟩ : ∃ c, respC s l bl.length = c := ⟨_, rfl⟩
    obtain ⟨bb, hbb⟩ : ∃ bb, respB s l bl = bb := ⟨_, rfl⟩
    have HCC : Hid (respC s l bl.length = c ∧ respB s l bl = bb) := ⟨hcc, hbb⟩
    rw [hcc] at HF T2 c0 ⊢
    rw [hbb] at HF
    clear hcc hbb
    generalize l.length = n at *
    go_wp2_with fail
    exact bodyPost_ret (v := .agg #[.int .i64 c, .slice none 0 0]) (by simp [results, Tryz.results10, go_sem, T2.out.c0, T2.out.c1]) rfl ⟨by rw [HCC.out.1, HCC.out.2]; exact HF.out _ _ rfl, (HB1.out.setCell (by simp) _).setCell (by simp) _⟩
end Go.Proofs.YtonnggelpjjmmaaGreatDoor
/-
  What the model's l5First and l5Words answer.
-/
namespace Go.Proofs.YtonnggelpjjmmaaGreatDoor
open Go.ChangeShapes Go.WideShapes Go.ChangeAt Go.RowKit Go.Sort
def firstV (l : List UInt8) : Value := match firstO l with
  | some x => .tuple #[.string (hmk x.1), .string (hmk x.2), .bool true]
  | none => .tuple #[.string ⟨#[]⟩, .string ⟨#[]⟩, .bool false]
theorem firstV_some {l a b : List UInt8} (h : firstO l = some (a, b)) : firstV l = .tuple #[.string (hmk a), .string (hmk b), .bool true] := by rw [firstV, h]
theorem firstV_none {l : List UInt8} (h : firstO l = none) : firstV l = .tuple #[.string ⟨#[]⟩, .string ⟨#[]⟩, .bool false] := by rw [firstV, h]
theorem lit_is {m : ByteArray} {l : List UInt8} (h : m.data.toList = l) : (m.toList == l) = true := by
  rw [Lib.toList_data, h]; simp
theorem lit_not {m : ByteArray} {l : List UInt8} (h : ¬ m.data.toList = l) : (m.toList == l) = false := by
  rw [Lib.toList_data, beq_eq_false_iff_ne]; exact h
theorem suffix4 (r : ByteArray) (j : Nat) (hj : r.size = j + 4) : ([13, 10, 13, 10] : List UInt8).isSuffixOf r.data.toList = decide ((r.extract j r.size).data.toList = [13, 10, 13, 10]) := by
  have hd : (r.extract j r.size).data.toList = r.data.toList.drop j := by
    rw [hext_mk, hmk_list]
    exact List.take_of_length_le (by rw [List.length_drop, hsize_list]; omega)
  rw [hd, Bool.eq_iff_iff, List.isSuffixOf_iff_suffix, decide_eq_true_eq]
  have hl : r.data.toList.length = j + 4 := by rw [hsize_list]; exact hj
  constructor
  · rintro ⟨q, hq⟩
    have hql : q.length = j := by have := congrArg List.length hq; simp only [List.length_append, List.length_cons, List.length_nil] at this; omega
    rw [← hq, ← hql, List.drop_left]
  · intro h
    exact ⟨r.data.toList.take j, by rw [← h, List.take_append_drop]⟩
theorem okRest_short {r : List UInt8} (h1 : ¬ r = [13, 10]) (h2 : r.length < 4) : okRest r = false := by
  simp only [okRest, Bool.or_eq_false_iff, decide_eq_false_iff_not]
  refine ⟨h1, ?_⟩
  cases h : ([13, 10, 13, 10] : List UInt8).isSuffixOf r
  · rfl
  · have := (List.isSuffixOf_iff_suffix.1 h).length_le
    simp only [List.length_cons, List.length_nil] at this; omega
theorem okRest_is {r : List UInt8} (h : r = [13, 10]) : okRest r = true := by subst h; rfl
theorem okRest_by {r : List UInt8} (h : ¬ r = [13, 10]) : okRest r = ([13, 10, 13, 10] : List UInt8).isSuffixOf r := by
  rw [okRest, decide_eq_false h, Bool.false_or]
theorem kext2 (p : ByteArray) (k : Nat) : (p.extract k p.size).data.toList = p.data.toList.drop k := by
  rw [hext_mk, hmk_list]
  exact List.take_of_length_le (by rw [List.length_drop, hsize_list]; omega)
theorem kext0 (p : ByteArray) (k : Nat) : p.extract 0 k = hmk (p.data.toList.take k) := by
  rw [hext_mk]; simp
set_option maxRecDepth 100000 in
set_option maxHeartbeats 8000000 in
theorem l5First_any (s : ByteArray) (w : World) (hs : s.size ≤ 10100) :
    Calls Tryz.prog 53 #[.string s] w fun e w' => e = .returned (firstV s.data.toList) ∧ Below w.heap.size w w' := by
  obtain ⟨fv, hfv⟩ : ∃ fv, fv = firstV s.data.toList := ⟨_, rfl⟩
  have HS : Hid (∀ a b, firstO s.data.toList = some (a, b) → Value.tuple #[.string (hmk a), .string (hmk b), .bool true] = fv) := fun a b h => by rw [hfv, firstV_some h]
  have HNO : Hid (firstO s.data.toList = none → Value.tuple #[.string ⟨#[]⟩, .string ⟨#[]⟩, .bool false] = fv) := fun h => by rw [hfv, firstV_none h]
  rw [← hfv]
  clear hfv
  go_enter Tryz.func53, Tryz.ntmps53
  go_wp2_with fail
  go_loopw [5] (fun i wr => ∃ (k : Nat), i = .int .i64 (k : Int) ∧ k ≤ crAt s.data.toList ∧ Below w.heap.size w wr) (fun i _ => s.size - (intOf i).toNat)
  case atStart => exact ⟨0, rfl, Nat.zero_le _, Below.refl _ _⟩
  case round =>
    obtain ⟨k, rfl, hkc, hb⟩ := hrel
    have HB : Hid (Below w.heap.size w wr) := hb
    clear hb
    have hcl := crAt_le s.data.toList
    rw [hsize_list] at hcl
    by_cases hlt : k + 1 < s.size
    · have g1 : (k : Int) + 1 < s.size := by omega
      have hk1 : k < s.size := by omega
      obtain ⟨on1, on2⟩ := crAt_on s.data.toList k hkc (by rw [hsize_list]; exact hlt)
      have H1 : Hid (s[k] = 13 ∧ s[k + 1] = 10 → crAt s.data.toList = k) := on1
      have H2 : Hid (¬ (s[k] = 13 ∧ s[k + 1] = 10) → k + 1 ≤ crAt s.data.toList) := on2
      clear on1 on2
      by_cases h13 : (s[k].toNat : Int) = 13
      · by_cases h10 : (s[k + 1].toNat : Int) = 10
        · have hc : crAt s.data.toList = k := H1.out ⟨(u8_13 _).2 h13, (u8_10 _).2 h10⟩
          have d10 : ((s[k + 1].toNat : Int) == 10) = true := by simpa using h10
          obtain ⟨r, hr⟩ : ∃ r, r = s.extract (k + 2) s.size := ⟨_, rfl⟩
          have hrl : r.data.toList = s.data.toList.drop (k + 2) := by rw [hr]; exact kext2 s (k + 2)
          have hrs : r.size + (k + 2) = s.size := by rw [← hsize_list r, hrl, List.length_drop, hsize_list]; omega
          have HIN : Hid (crAt s.data.toList < s.data.toList.length) := by show _ < _; rw [hc, hsize_list]; omega
          have HOK : Hid (okRest r.data.toList = true → Value.tuple #[.string (s.extract 0 k), .string (r.extract 0 (r.size - 2)), .bool true] = fv) := fun h => by
            have e := firstO_yes (l := s.data.toList) HIN.out (by rw [hc, ← hrl]; exact h)
            rw [hc, ← hrl, hsize_list] at e
            have e2 := HS.out _ _ e
            rw [← e2, kext0, kext0]
            have : r.size - 2 = s.size - (k + 2) - 2 := by omega
            rw [this]
          have HBAD : Hid (okRest r.data.toList = false → Value.tuple #[.string ⟨#[]⟩, .string ⟨#[]⟩, .bool false] = fv) := fun h => HNO.out (firstO_bad (by rw [hc, ← hrl]; exact h))
          have gk2 : (k : Int) + 2 ≤ s.size := by omega
          have ge : s.extract (k + 2) s.size = r := hr.symm
          clear hr hrl HS HNO H1 H2 h10 hc HIN
          by_cases hr2 : r.data.toList = [13, 10]
          · have dE := lit_is hr2
            have hz2 : r.size = 2 := by rw [← hsize_list, hr2]; rfl
            obtain ⟨j2, hj2⟩ : ∃ j, r.size = j + 2 := ⟨0, hz2⟩
            have e2 : IntKind.i64.wrap ((r.size : Int) - 2) = (j2 : Int) := by rw [IntKind.wrap_i64]; omega
            have gj0 : (0 : Int) ≤ j2 := by omega
            have gj1 : (j2 : Int) ≤ r.size := by omega
            have gk0 : (0 : Int) ≤ k := by omega
            have gk1 : (k : Int) ≤ s.size := by omega
            have HVH : Hid (Value.tuple #[.string (s.extract 0 k), .string (r.extract 0 j2), .bool true] = fv) := by
              have := HOK.out (okRest_is hr2)
              rw [show r.size - 2 = j2 from by omega] at this
              exact this
            clear HOK HBAD hr2 hz2 hj2
            go_wp2_with fail
            refine wp_region_quiet_below (by kernel_rfl) (by kernel_rfl) ?_
            repeat (go_big_quiet_step (first | fail))
            refine wpQuiet_nil ?_
            intro w2 hw2
            have HB2 : Hid (Below w.heap.size w w2) := by
              obtain ⟨⟨d, os⟩, rfl⟩ := hw2
              exact HB.out.trans ((below_regrown wr d os).mono HB.out.size)
            clear hw2
            go_wp2_with fail
            exact bodyPost_ret (v := .tuple #[.string (s.extract 0 k), .string (r.extract 0 j2), .bool true]) (by simp [results, Tryz.results53, go_sem]) rfl ⟨congrArg Ending.returned HVH.out, HB2.out⟩
          · have dE := lit_not hr2
            by_cases h4 : 4 ≤ r.size
            · have d4 : decide ((4 : Int) ≤ (r.size : Int)) = true := by simp; omega
              obtain ⟨j, hj⟩ : ∃ j, r.size = j + 4 := ⟨r.size - 4, by omega⟩
              have e4 : (r.size : Int) - 4 = (j : Int) := by omega
              have gq0 : (0 : Int) ≤ j := by omega
              have gq1 : (j : Int) ≤ r.size := by omega
              have hsf := suffix4 r j hj
              rw [← okRest_by hr2] at hsf
              by_cases hq : (r.extract j r.size).data.toList = [13, 10, 13, 10]
              · have dQ := lit_is hq
                rw [decide_eq_true hq] at hsf
                obtain ⟨j2, hj2⟩ : ∃ j, r.size = j + 2 := ⟨r.size - 2, by omega⟩
                have e2 : IntKind.i64.wrap ((r.size : Int) - 2) = (j2 : Int) := by rw [IntKind.wrap_i64]; omega
                have gj0 : (0 : Int) ≤ j2 := by omega
                have gj1 : (j2 : Int) ≤ r.size := by omega
                have gk0 : (0 : Int) ≤ k := by omega
                have gk1 : (k : Int) ≤ s.size := by omega
                have HVH : Hid (Value.tuple #[.string (s.extract 0 k), .string (r.extract 0 j2), .bool true] = fv) := by
                  have := HOK.out hsf
                  rw [show r.size - 2 = j2 from by omega] at this
                  exact this
                clear HOK HBAD hr2 hq hsf hj
                try clear hj2
                go_wp2_with fail
                refine wp_region_quiet_below (by kernel_rfl) (by kernel_rfl) ?_
                repeat (go_big_quiet_step (first | fail))
                refine wpQuiet_nil ?_
                intro w2 hw2
                have HB2 : Hid (Below w.heap.size w w2) := by
                  obtain ⟨⟨d, os⟩, rfl⟩ := hw2
                  exact HB.out.trans ((below_regrown wr d os).mono HB.out.size)
                clear hw2
                go_wp2_with fail
                exact bodyPost_ret (v := .tuple #[.string (s.extract 0 k), .string (r.extract 0 j2), .bool true]) (by simp [results, Tryz.results53, go_sem]) rfl ⟨congrArg Ending.returned HVH.out, HB2.out⟩
              · have dQ := lit_not hq
                rw [decide_eq_false hq] at hsf
                have HVH : Hid (Value.tuple #[.string ⟨#[]⟩, .string ⟨#[]⟩, .bool false] = fv) := HBAD.out hsf
                clear HOK HBAD hr2 hq hsf hj
                try clear hj2
                go_wp2_with fail
                exact bodyPost_ret (v := .tuple #[.string ⟨#[]⟩, .string ⟨#[]⟩, .bool false]) (by simp [results, Tryz.results53, go_sem]) rfl ⟨congrArg Ending.returned HVH.out, HB.out⟩
            · have d4 : decide ((4 : Int) ≤ (r.size : Int)) = false := by simp; omega
              have HVH : Hid (Value.tuple #[.string ⟨#[]⟩, .string ⟨#[]⟩, .bool false] = fv) := HBAD.out (okRest_short hr2 (by rw [hsize_list]; omega))
              clear HOK HBAD hr2
              go_wp2_with fail
              exact bodyPost_ret (v := .tuple #[.string ⟨#[]⟩, .string ⟨#[]⟩, .bool false]) (by simp [results, Tryz.results53, go_sem]) rfl ⟨congrArg Ending.returned HVH.out, HB.out⟩
        · have HN : Hid (k + 1 ≤ crAt s.data.toList) := H2.out (fun e => h10 ((u8_10 _).1 e.2))
          have d10 : ((s[k + 1].toNat : Int) == 10) = false := by simpa using h10
          clear h10 H1 H2 HS HNO
          go_wp2_with fail
          go_roundw
          case rel => exact ⟨k + 1, by go_num, HN.out, HB.out⟩
          case measure => simp [intOf]; omega
      · have HN : Hid (k + 1 ≤ crAt s.data.toList) := H2.out (fun e => h13 ((u8_13 _).1 e.1))
        have d13 : ((s[k].toNat : Int) == 13) = false := by simpa using h13
        clear H1 H2 HS HNO
        go_wp2_with fail
        go_roundw
        case rel => exact ⟨k + 1, by go_num, HN.out, HB.out⟩
        case measure => simp [intOf]; omega
    · have g1 : ¬ (k : Int) + 1 < s.size := by omega
      have HV : Hid (Value.tuple #[.string ⟨#[]⟩, .string ⟨#[]⟩, .bool false] = fv) := HNO.out (firstO_no (by rw [crAt_end s.data.toList k hkc (by rw [hsize_list]; exact hlt)]; omega))
      clear HS HNO
      go_wp2_with fail
      exact bodyPost_ret (v := .tuple #[.string ⟨#[]⟩, .string ⟨#[]⟩, .bool false]) (by simp [results, Tryz.results53, go_sem]) rfl ⟨congrArg Ending.returned HV.out, HB.out⟩
end Go.Proofs.YtonnggelpjjmmaaGreatDoor
/-
  What the model's l4Read and ReadHeaders answer.
-/
namespace Go.Proofs.YtonnggelpjjmmaaGreatDoor
open Go.ChangeShapes Go.WideShapes Go.ChangeAt Go.RowKit Go.Sort
theorem wpAny_seq3 {P : Program} {md : Region.Mode} {ops : Array Oper} {Q : Exit → Act → World → Prop} {k : Nat} {o1 o2 o3 : Oper} {listed : Array Bool} {a : Act} {w : World} (h1 : ops[k]? = some o1) (h2 : ops[k + 1]? = some o2) (h3 : ops[k + 2]? = some o3) (h4 : ops.size = k + 3)
    (hB : Region.seqB md ops 3 k listed = true) (h : wpList P ops Q [o1, o2, o3] a w) : wpAny P md ops Q 3 listed a w :=
  wpAny_of_seq [o1, o2, o3] k listed a w (fun j => by
    match j with
    | 0 => simpa using h1.symm
    | 1 => simpa using h2.symm
    | 2 => simpa using h3.symm
    | j + 3 => rw [Array.getElem?_eq_none (by omega)]; simp) hB h
def HReadRes (s : ByteArray) (base : Nat) (e : Ending) (w : World) : Prop := ∃ v, e = .returned (.tuple #[v, .int .i64 (readHC s)]) ∧ OwnH w base v (readHL s)
theorem HReadRes.mk {s : ByteArray} {base : Nat} {w : World} {v : Value} {c : Int} {L : List Hdr} (h : readHC s = c ∧ readHL s = L) (ho : OwnH w base v L) : HReadRes s base (.returned (.tuple #[v, .int .i64 c])) w := ⟨v, by rw [h.1], by rw [h.2]; exact ho⟩
theorem readT_of_none {l : List UInt8} (h : linesO l = none) : readT l = none := by unfold readT; rw [h]; rfl
theorem readT_of_some {l : List UInt8} {P : List (List UInt8)} (h : linesO l = some P) : readT l = readLs P := by unfold readT; rw [h]; rfl
theorem cl_get (p : List UInt8) (k : Nat) (h : k < (hmk p).size) : (hmk p)[k] = p[k]'(by rw [hmk_size] at h; exact h) := by
  rfl
theorem hext_take (p : List UInt8) (k : Nat) : (hmk p).extract 0 k = hmk (p.take k) := by
  rw [hext_mk, hmk_list]; simp
theorem hext_drop (p : List UInt8) (k : Nat) : (hmk p).extract k (hmk p).size = hmk (p.drop k) := by
  rw [hext_mk, hmk_list, hmk_size, List.take_of_length_le (by rw [List.length_drop]; exact Nat.le_refl _)]
set_option maxRecDepth 100000 in
set_option maxHeartbeats 16000000 in
theorem l4Read_any (s : ByteArray) (w : World) (hs : ¬ 6000 < s.size) :
    Calls Tryz.prog 91 #[.string s] w fun e w' => HReadRes s w.heap.size e w' ∧ Below w.heap.size w w' := by
  have HP : Hid (∀ w, Calls Tryz.prog 129 #[.string s] w fun e w' => LinesRes s w.heap.size e w' ∧ Below w.heap.size w w') := fun w => l4Lines_any s w (by omega)
  have R5 : Hid (readT s.data.toList = none → readHC s = 5 ∧ readHL s = []) := fun h => readH_bad hs h
  have RF : Hid (∀ L, readT s.data.toList = some L → headsC L ≠ 0 → readHC s = headsC L ∧ readHL s = []) := fun L h1 h2 => readH_fault hs h1 h2
  have R0 : Hid (∀ L, readT s.data.toList = some L → headsC L = 0 → readHC s = 0 ∧ readHL s = L) := fun L h1 h2 => readH_ok hs h1 h2
  go_enter Tryz.func91, Tryz.ntmps91
  go_wp2_with fail
  refine (HP.out _).mono ?_
  rintro e w1 ⟨⟨v, O, ok, rfl, ho, hol, h1, h2⟩, hb1⟩
  have HB1 : Hid (Below w.heap.size w w1) := hb1
  have hzb1 := hb1.size
  clear hb1 HP
  cases ok
  · have HX : Hid (readHC s = 5 ∧ readHL s = []) := R5.out (readT_of_none (h2 rfl))
    clear h1 h2 R5 RF R0 ho
    go_wp2_with fail
    go_ret2
    exact ⟨HReadRes.mk HX.out (OwnH.nil _ _), HB1.out⟩
  have HT : Hid (readT s.data.toList = readLs O) := readT_of_some (h1 rfl)
  have hpl := (linesO_len _ _ O (Nat.le_refl _) (h1 rfl)).2
  have HPL : Hid (∀ p ∈ O, p.length ≤ 6000) := fun p hp => by have := hpl p hp; rw [hsize_list] at this; omega
  clear h1 h2 hpl
  obtain ⟨va, vc, hv, _⟩ := ho.shape
  rw [List.length_map] at hv
  subst hv
  have HO1 : Hid (OwnS w1 0 (.slice va O.length vc) (O.map hmk)) := OwnS.lower ho (Nat.zero_le _)
  clear ho
  generalize hn : O.length = n at *
  have HN : Hid (O.length = n) := hn
  clear hn
  go_wp2_with fail
  go_loopw [6, 7] (fun v i wr => ∃ (k : Nat) (R : List Hdr), k ≤ n ∧ R.length ≤ k ∧ i = .int .i64 k ∧ OwnH wr w.heap.size v R ∧ readLs O = (readLs (O.drop k)).map (R ++ ·) ∧ Below w.heap.size w wr ∧ OwnS wr 0 (.slice va n vc) (O.map hmk)) (fun _ i _ => n - (intOf i).toNat)
  case atStart => exact ⟨0, [], Nat.zero_le _, Nat.le_refl _, rfl, OwnH.made0 w1 w.heap.size hzb1, by simp, HB1.out.alloc hzb1 _, HO1.out.below ((Below.refl _ _).alloc (Nat.le_refl _) _)⟩
  case round =>
    obtain ⟨k, R, hk, hR, rfl, hown, hrd, hb, hat⟩ := hrel
    have HO : Hid (OwnH wr w.heap.size u6 R) := hown
    have HD : Hid (readLs O = (readLs (O.drop k)).map (R ++ ·)) := hrd
    have HB : Hid (Below w.heap.size w wr) := hb
    have HTx : Hid (OwnS wr 0 (.slice va n vc) (O.map hmk)) := hat
    have hz := hb.size
    clear hown hrd hb hat HB1 HO1
    by_cases hlt : k < n
    · obtain ⟨p, hp⟩ : ∃ p, O[k]? = some p := ⟨O[k]'(by have := HN.out; omega), List.getElem?_eq_getElem _⟩
      obtain ⟨a2, c2, hv2, hcell⟩ := HTx.out.shape
      obtain ⟨g, hg, c1⟩ := hcell k (hmk p) (by rw [List.getElem?_map, hp]; rfl)
      have ha2 : va = a2 := (Value.slice.inj hv2).1
      subst ha2
      subst hg
      have hpz : p.length ≤ 6000 := HPL.out p (List.mem_of_getElem? hp)
      have hdr : O.drop k = p :: O.drop (k + 1) := by
        obtain ⟨hk2, rfl⟩ := List.getElem?_eq_some_iff.1 hp
        exact List.drop_eq_getElem_cons hk2
      have D2 : ¬ clAt p < p.length → readLs O = none := fun h => by rw [HD.out, hdr, readLs_bad h]; rfl
      have D3 : clAt p < p.length → readLs O = (readLs (O.drop (k + 1))).map ((R ++ [lineOf p]) ++ ·) := fun h => by
        rw [HD.out, hdr, readLs_take h, Option.map_map]
        congr 1
        funext x
        simp
      have EL : lineOf p = ⟨(hmk p).extract 0 (clAt p), trimT ((hmk p).extract (clAt p + 1) (hmk p).size)⟩ := by rw [hext_take, hext_drop]; rfl
      rw [EL] at D3
      have hps : (hmk p).size = p.length := hmk_size p
      have hon : ∀ j, j ≤ clAt p → (h : j < (hmk p).size) → ((hmk p)[j] = 58 → clAt p = j) ∧ (¬ (hmk p)[j] = 58 → j + 1 ≤ clAt p) := fun j hj h => by
        have := clAt_on p j hj (by rw [hps] at h; exact h)
        rw [cl_get p j h]
        exact this
      have hle := clAt_le p
      have gk : (k : Int) < n := by omega
      rw [← hps] at hpz hle D2 D3
      clear hdr hp HD EL hps hcell hv2
      generalize hmk p = pb at *
      generalize clAt p = q at *
      have HD2 : Hid (¬ q < pb.size → readLs O = none) := D2
      have HD3 : Hid (q < pb.size → readLs O = (readLs (O.drop (k + 1))).map ((R ++ [⟨pb.extract 0 q, trimT (pb.extract (q + 1) pb.size)⟩]) ++ ·)) := D3
      have HON : Hid (∀ j, j ≤ q → (h : j < pb.size) → (pb[j] = 58 → q = j) ∧ (¬ pb[j] = 58 → j + 1 ≤ q)) := hon
      clear D2 D3 hon
      have gk0 : (0 : Int) ≤ k := by omega
      go_wp2_with fail
      go_loop [8] (fun x => ∃ j : Nat, j ≤ q ∧ x = .int .i64 (j : Int)) (fun x => pb.size - (intOf x).toNat)
      case atStart => exact ⟨0, Nat.zero_le _, rfl⟩
      case round =>
        obtain ⟨j, hj, rfl⟩ := hrel
        by_cases hjs : j < pb.size
        · have gj : (j : Int) < pb.size := by omega
          have gj0 : (0 : Int) ≤ j := by omega
          obtain ⟨o1, o2⟩ := HON.out j hj hjs
          by_cases h58 : (pb[j].toNat : Int) = 58
          · have hqj : q = j := o1 ((u8_58 _).2 h58)
            have d58 : ((pb[j].toNat : Int) != 58) = false := by simpa using h58
            have gne : ¬ (j : Int) = pb.size := by omega
            have HY0 := HD3.out (by omega)
            rw [hqj] at HY0
            have HTR0 := fun w => l1Trim_big (pb.extract (j + 1) pb.size) w (by rw [ByteArray.size_extract]; omega)
            obtain ⟨tv, htv⟩ : ∃ tv, Hid (trimT (pb.extract (j + 1) pb.size) = tv) := ⟨_, rfl⟩
            rw [htv.out] at HY0
            have HTR : Hid (∀ w, Calls Tryz.prog 115 #[.string (pb.extract (j + 1) pb.size)] w fun e w' => e = .returned (.string tv) ∧ w' = w) := by
              rw [htv.out] at HTR0
              exact HTR0
            have HY : Hid (readLs O = (readLs (O.drop (k + 1))).map ((R ++ [⟨pb.extract 0 j, tv⟩]) ++ ·)) := HY0
            clear o1 o2 HY0 HTR0 htv HD2 HD3 HON
            go_wp2_with fail
            refine wp_region_any (by kernel_rfl) ?_
            change wpAny _ _ _ _ _ _ _ (World.drew _)
            obtain ⟨Z, hZ⟩ : ∃ X, X = wr.drew := ⟨_, rfl⟩
            rw [← hZ]
            have KZ : Below wr.heap.size wr Z := by
              rw [hZ]
              exact (Below.refl _ _).drew
            have cZ := hkeep KZ c1
            have HOZ : Hid (OwnH Z w.heap.size u6 R) := HO.out.below KZ
            have HTZ : Hid (OwnS Z 0 (.slice (some ⟨g, 0, none⟩) n vc) (O.map hmk)) := HTx.out.below KZ
            have HBZ : Hid (Below w.heap.size w Z) := HB.out.trans (KZ.mono hz)
            have hzZ := HBZ.out.size
            have gj1 : (0 : Int) ≤ (j : Int) + 1 := by omega
            have gj2 : (j : Int) + 1 ≤ pb.size := by omega
            have gj3 : (j : Int) ≤ pb.size := by omega
            clear hZ KZ HO HTx HB c1
            refine wpAny_take (i := 0) (v := u6) rfl (by kernel_rfl) (by kernel_rfl) (by kernel_rfl) (fun _ _ _ h => h) (Or.inl ⟨by kernel_rfl, ?_⟩) ?_
            · intro w; go_simp
            refine wpAny_take (i := 1) (v := .slice (some ⟨g, 0, none⟩) n vc) rfl (by kernel_rfl) (by kernel_rfl) (by kernel_rfl) (fun _ _ _ h => h) (Or.inl ⟨by kernel_rfl, ?_⟩) ?_
            · intro w; go_simp
            refine wpAny_take (i := 2) (v := .int .i64 (k : Int)) rfl (by kernel_rfl) (by kernel_rfl) (by kernel_rfl) (fun _ _ _ h => h) (Or.inl ⟨by kernel_rfl, ?_⟩) ?_
            · intro w; go_simp
            refine wpAny_take (i := 3) (v := .pointer (some ⟨g, k, none⟩)) rfl (by kernel_rfl) (by kernel_rfl) (by kernel_rfl) (fun _ _ _ h => h) (Or.inl ⟨by kernel_rfl, ?_⟩) ?_
            · intro w; go_simp
            refine wpAny_take (i := 5) (v := .int .i64 (j : Int)) rfl (by kernel_rfl) (by kernel_rfl) (by kernel_rfl) (fun _ _ _ h => h) (Or.inl ⟨by kernel_rfl, ?_⟩) ?_
            · intro w; go_simp
            refine wpAny_take (i := 7) (v := .slice (some ⟨g, 0, none⟩) n vc) rfl (by kernel_rfl) (by kernel_rfl) (by kernel_rfl) (fun _ _ _ h => h) (Or.inl ⟨by kernel_rfl, ?_⟩) ?_
            · intro w; go_simp
            refine wpAny_take (i := 8) (v := .int .i64 (k : Int)) rfl (by kernel_rfl) (by kernel_rfl) (by kernel_rfl) (fun _ _ _ h => h) (Or.inl ⟨by kernel_rfl, ?_⟩) ?_
            · intro w; go_simp
            refine wpAny_take (i := 9) (v := .pointer (some ⟨g, k, none⟩)) rfl (by kernel_rfl) (by kernel_rfl) (by kernel_rfl) (fun _ _ _ h => h) (Or.inl ⟨by kernel_rfl, ?_⟩) ?_
            · intro w; go_simp
            refine wpAny_take (i := 11) (v := .int .i64 (j : Int)) rfl (by kernel_rfl) (by kernel_rfl) (by kernel_rfl) (fun _ _ _ h => h) (Or.inl ⟨by kernel_rfl, ?_⟩) ?_
            · intro w; go_simp
            refine wpAny_take (i := 12) (v := .int .i64 ((j : Int) + 1)) rfl (by kernel_rfl) (by kernel_rfl) (by kernel_rfl) (fun _ _ _ h => h) (Or.inl ⟨by kernel_rfl, ?_⟩) ?_
            · intro w; go_simp; rw [IntKind.wrap_i64]; omega
            refine wpAny_ready (rs := [4, 10]) (by kernel_rfl) (by simp) ?_
            refine AllReady.cons rfl (fun K hK => ?_) (AllReady.cons rfl (fun K hK => ?_) AllReady.nil)
            · go_simp
              refine hK _ _ ?_
              clear hK K
              refine wpAny_take (i := 6) (v := .string (pb.extract 0 j)) rfl (by kernel_rfl) (by kernel_rfl) (by kernel_rfl) (fun _ _ _ h => h) (Or.inl ⟨by kernel_rfl, ?_⟩) ?_
              · intro w; go_simp
              refine wpAny_ready (rs := [10]) (by kernel_rfl) (by simp) ?_
              refine AllReady.cons rfl (fun K hK => ?_) AllReady.nil
              go_simp
              refine hK _ _ ?_
              clear hK K
              refine wpAny_take (i := 13) (v := .string (pb.extract (j + 1) pb.size)) rfl (by kernel_rfl) (by kernel_rfl) (by kernel_rfl) (fun _ _ _ h => h) (Or.inl ⟨by kernel_rfl, ?_⟩) ?_
              · intro w; go_simp
              refine wpAny_ready (rs := [14]) (by kernel_rfl) (by simp) ?_
              refine AllReady.cons rfl (fun K hK => ?_) AllReady.nil
              go_simp
              go_wp2_with fail
              refine (HTR.out _).mono ?_
              rintro e wz ⟨rfl, rfl⟩
              refine hK _ _ ?_
              clear hK K
              refine wpAny_take (i := 15) (v := .agg #[.string (pb.extract 0 j), .string tv]) rfl (by kernel_rfl) (by kernel_rfl) (by kernel_rfl) (fun _ _ _ h => h) (Or.inl ⟨by kernel_rfl, ?_⟩) ?_
              · intro w; go_simp
              refine wpAny_seq3 (k := 16) (o1 := Oper.mk _ _ _ _ _ _) (o2 := Oper.mk _ _ _ _ _ _) (o3 := Oper.mk _ _ _ _ _ _) rfl rfl rfl rfl (by kernel_rfl) ?_
              go_wp2_with (at_builtin; refine wpList_append_hdr _ rfl (.tmp 49) (.tmp 65) rfl w.heap.size _ R (pb.extract 0 j) tv rfl rfl HOZ.out (by omega) hzZ ?_; intro v5 w5 HO5 hb5 hz5 hk5)
              go_roundw
              case rel => exact ⟨k + 1, R ++ [⟨pb.extract 0 j, tv⟩], by omega, by simp; omega, by go_num, HO5, HY.out, HBZ.out.trans hb5, hk5 _ _ _ HTZ.out⟩
              case measure => simp [intOf]; omega
            · go_simp
              refine hK _ _ ?_
              clear hK K
              refine wpAny_take (i := 13) (v := .string (pb.extract (j + 1) pb.size)) rfl (by kernel_rfl) (by kernel_rfl) (by kernel_rfl) (fun _ _ _ h => h) (Or.inl ⟨by kernel_rfl, ?_⟩) ?_
              · intro w; go_simp
              refine wpAny_ready (rs := [4, 14]) (by kernel_rfl) (by simp) ?_
              refine AllReady.cons rfl (fun K hK => ?_) (AllReady.cons rfl (fun K hK => ?_) AllReady.nil)
              · go_simp
                refine hK _ _ ?_
                clear hK K
                refine wpAny_take (i := 6) (v := .string (pb.extract 0 j)) rfl (by kernel_rfl) (by kernel_rfl) (by kernel_rfl) (fun _ _ _ h => h) (Or.inl ⟨by kernel_rfl, ?_⟩) ?_
                · intro w; go_simp
                refine wpAny_ready (rs := [14]) (by kernel_rfl) (by simp) ?_
                refine AllReady.cons rfl (fun K hK => ?_) AllReady.nil
                go_simp
                go_wp2_with fail
                refine (HTR.out _).mono ?_
                rintro e wz ⟨rfl, rfl⟩
                refine hK _ _ ?_
                clear hK K
                refine wpAny_take (i := 15) (v := .agg #[.string (pb.extract 0 j), .string tv]) rfl (by kernel_rfl) (by kernel_rfl) (by kernel_rfl) (fun _ _ _ h => h) (Or.inl ⟨by kernel_rfl, ?_⟩) ?_
                · intro w; go_simp
                refine wpAny_seq3 (k := 16) (o1 := Oper.mk _ _ _ _ _ _) (o2 := Oper.mk _ _ _ _ _ _) (o3 := Oper.mk _ _ _ _ _ _) rfl rfl rfl rfl (by kernel_rfl) ?_
                go_wp2_with (at_builtin; refine wpList_append_hdr _ rfl (.tmp 49) (.tmp 65) rfl w.heap.size _ R (pb.extract 0 j) tv rfl rfl HOZ.out (by omega) hzZ ?_; intro v5 w5 HO5 hb5 hz5 hk5)
                go_roundw
                case rel => exact ⟨k + 1, R ++ [⟨pb.extract 0 j, tv⟩], by omega, by simp; omega, by go_num, HO5, HY.out, HBZ.out.trans hb5, hk5 _ _ _ HTZ.out⟩
                case measure => simp [intOf]; omega
              · go_simp
                go_wp2_with fail
                refine (HTR.out _).mono ?_
                rintro e wz ⟨rfl, rfl⟩
                refine hK _ _ ?_
                clear hK K
                refine wpAny_ready (rs := [4]) (by kernel_rfl) (by simp) ?_
                refine AllReady.cons rfl (fun K hK => ?_) AllReady.nil
                go_simp
                refine hK _ _ ?_
                clear hK K
                refine wpAny_take (i := 6) (v := .string (pb.extract 0 j)) rfl (by kernel_rfl) (by kernel_rfl) (by kernel_rfl) (fun _ _ _ h => h) (Or.inl ⟨by kernel_rfl, ?_⟩) ?_
                · intro w; go_simp
                refine wpAny_take (i := 15) (v := .agg #[.string (pb.extract 0 j), .string tv]) rfl (by kernel_rfl) (by kernel_rfl) (by kernel_rfl) (fun _ _ _ h => h) (Or.inl ⟨by kernel_rfl, ?_⟩) ?_
                · intro w; go_simp
                refine wpAny_seq3 (k := 16) (o1 := Oper.mk _ _ _ _ _ _) (o2 := Oper.mk _ _ _ _ _ _) (o3 := Oper.mk _ _ _ _ _ _) rfl rfl rfl rfl (by kernel_rfl) ?_
                go_wp2_with (at_builtin; refine wpList_append_hdr _ rfl (.tmp 49) (.tmp 65) rfl w.heap.size _ R (pb.extract 0 j) tv rfl rfl HOZ.out (by omega) hzZ ?_; intro v5 w5 HO5 hb5 hz5 hk5)
                go_roundw
                case rel => exact ⟨k + 1, R ++ [⟨pb.extract 0 j, tv⟩], by omega, by simp; omega, by go_num, HO5, HY.out, HBZ.out.trans hb5, hk5 _ _ _ HTZ.out⟩
                case measure => simp [intOf]; omega
          · have hqj := o2 (fun e => h58 ((u8_58 _).1 e))
            have d58 : ((pb[j].toNat : Int) != 58) = true := by simpa using h58
            clear o1 o2
            go_wp2_with fail
            go_round
            case rel => exact ⟨j + 1, hqj, by go_num⟩
            case measure => simp [intOf]; omega
        · have hqj : q = j := by omega
          have gj : ¬ (j : Int) < pb.size := by omega
          have gd : decide ((j : Int) < pb.size) = false := by simpa using gj
          have gje : (j : Int) = pb.size := by omega
          have HX : Hid (readHC s = 5 ∧ readHL s = []) := R5.out (by rw [HT.out]; exact HD2.out (by omega))
          have hjq : j = pb.size := by omega
          subst hjq
          clear HD2 HD3 HON
          go_wp2_with fail
          go_ret2
          exact ⟨HReadRes.mk HX.out (OwnH.nil _ _), HB.out⟩
    · have HX : Hid (readT s.data.toList = some R) := by
        show _ = _
        rw [HT.out, HD.out, List.drop_of_length_le (by have := HN.out; omega)]
        simp [readLs]
      obtain ⟨ra, rc, hra, hin⟩ := HO.out.at
      subst hra
      have hRn : R.length ≤ 6000 := by omega
      have HF := specHFault_any wr ra rc R (by omega) hin
      clear HD HTx hin
      by_cases h0 : headsC R = 0
      · have HY : Hid (readHC s = 0 ∧ readHL s = R) := R0.out R HX.out h0
        rw [h0] at HF
        have HO2 : Hid (OwnH wr w.heap.size (.slice ra R.length rc) R) := HO.out
        clear HX h0 HO
        generalize R.length = rn at *
        go_wp2_with fail
        refine HF.mono ?_
        rintro e w2 ⟨rfl, hb2⟩
        have HB2 : Hid (Below w.heap.size w w2) := HB.out.trans (hb2.mono hz)
        have HO3 : Hid (OwnH w2 w.heap.size (.slice ra rn rc) R) := HO2.out.below hb2
        clear hb2 HB HO2 HF
        go_wp2_with fail
        go_ret2
        exact ⟨HReadRes.mk HY.out HO3.out, HB2.out⟩
      · have HY : Hid (readHC s = headsC R ∧ readHL s = []) := RF.out R HX.out h0
        generalize headsC R = fc at *
        clear HX HO
        generalize R.length = rn at *
        go_wp2_with fail
        refine HF.mono ?_
        rintro e w2 ⟨rfl, hb2⟩
        have HB2 : Hid (Below w.heap.size w w2) := HB.out.trans (hb2.mono hz)
        clear hb2 HB HF
        go_wp2_with fail
        go_ret2
        exact ⟨HReadRes.mk HY.out (OwnH.nil _ _), HB2.out⟩
end Go.Proofs.YtonnggelpjjmmaaGreatDoor
/-
  What ReadHeaders and its model answer.
-/
namespace Go.Proofs.YtonnggelpjjmmaaGreatDoor
open Go.ChangeShapes Go.WideShapes Go.ChangeAt Go.RowKit Go.Sort
set_option maxHeartbeats 2000000 in
theorem specRead_any (s : ByteArray) (w : World) :
    Calls Tryz.prog 54 #[.string s] w fun e w' => HRes (readHC s) (readHL s) w.heap.size e w' ∧ Below w.heap.size w w' := by
  by_cases hs : 6000 < s.size
  · have hh : (6000 : Int) < s.size := by omega
    have HL : Hid (readHC s = 2 ∧ readHL s = []) := readH_long hs
    go_enter Tryz.func54, Tryz.ntmps54
    go_wp2
    exact bodyPost_ret (v := .agg #[.int .i64 2, .slice none 0 0]) (by simp [results, Tryz.results54, go_sem]) rfl ⟨HRes.mk HL.out (OwnH.nil _ _), (Below.refl _ _).alloc (Nat.le_refl _) _⟩
  have hh : ¬ (6000 : Int) < s.size := by omega
  have HP : Hid (∀ W, Calls Tryz.prog 91 #[.string s] W fun e w' => HReadRes s W.heap.size e w' ∧ Below W.heap.size W w') := fun W => l4Read_any s W hs
  clear hs
  go_enter Tryz.func54, Tryz.ntmps54
  go_wp2_with fail
  refine (HP.out _).mono ?_
  rintro e w1 ⟨⟨v, rfl, ho⟩, hb⟩
  simp only [World.size_alloc] at ho hb
  obtain ⟨hz, q0, q1, f0, f1, kb⟩ := heads_room hb
  obtain ⟨va, vc, hv, _⟩ := ho.at
  generalize hn : (readHL s).length = vn at hv
  subst hv
  obtain ⟨c, hc⟩ : ∃ c, Hid (readHC s = c) := ⟨_, rfl⟩
  rw [hc.out]
  have KO : Hid (OwnH w1 (w.heap.size + 1) (.slice va vn vc) (readHL s)) := ho
  obtain ⟨r0, r1⟩ := two_set (v0 := .int .i64 c) (v1 := .slice va vn vc) q0 q1
  clear hb ho HP hn
  go_wp2_with fail
  exact bodyPost_ret (v := .agg #[.int .i64 c, .slice va vn vc]) (by simp [results, Tryz.results54, go_sem, r0, r1]) rfl ⟨HRes.mk ⟨hc.out, rfl⟩ ((ownH_set (ownH_set KO.out (Nat.lt_succ_self _)) (Nat.lt_succ_self _)).lower (Nat.le_succ _)), (kb.setCell (Nat.le_refl _) _).setCell (Nat.le_refl _) _⟩
/-- The library's own variable holds some number. -/
def MaxIs (w : World) : Prop := ∃ m, w.cell? ⟨5, 0, none⟩ = some (.int .i64 m)
theorem MaxIs.below {w w' : World} (h : MaxIs w) (hb : Below w.heap.size w w') : MaxIs w' := by
  obtain ⟨m, h⟩ := h
  exact ⟨m, hkeep hb h⟩
theorem below_drewN (w : World) (n : Nat) : Below w.heap.size w (w.drewN n) :=
  have h := Below.refl w.heap.size w
  ⟨h.os, h.tape, h.output, h.size, h.block⟩
theorem hcut_cr (l : List UInt8) (w : World) (hm : MaxIs w) (hl : l.length ≤ 6000) (h : crAt l < l.length) :
    Calls Tryz.prog 64 #[.string (hmk l), .string ⟨#[13, 10]⟩] w fun e w' => e = .returned (.tuple #[.string (hmk (l.take (crAt l))), .string (hmk (l.drop (crAt l + 2))), .bool true]) ∧ Below w.heap.size w w' := by
  obtain ⟨m, hm⟩ := hm
  have := Any.strings_Cut Tryz.laysM145.ton145 (hmk l) ⟨#[13, 10]⟩ m w (by rw [hmk_size]; omega) hm
  rw [hmk_list, show (⟨#[13, 10]⟩ : ByteArray).data.toList = [13, 10] from rfl, cut_cr h] at this
  exact this.mono fun e w' ⟨h1, n, h2⟩ => ⟨h1, h2 ▸ below_drewN w n⟩
theorem hcut_cl (l : List UInt8) (w : World) (hm : MaxIs w) (hl : l.length ≤ 6000) (h : clAt l < l.length) :
    Calls Tryz.prog 64 #[.string (hmk l), .string ⟨#[58]⟩] w fun e w' => e = .returned (.tuple #[.string (hmk (l.take (clAt l))), .string (hmk (l.drop (clAt l + 1))), .bool true]) ∧ Below w.heap.size w w' := by
  obtain ⟨m, hm⟩ := hm
  have := Any.strings_Cut Tryz.laysM145.ton145 (hmk l) ⟨#[58]⟩ m w (by rw [hmk_size]; omega) hm
  rw [hmk_list, show (⟨#[58]⟩ : ByteArray).data.toList = [58] from rfl, cut_cl h] at this
  exact this.mono fun e w' ⟨h1, n, h2⟩ => ⟨h1, h2 ▸ below_drewN w n⟩
theorem hcut_no (l : List UInt8) (w : World) (hm : MaxIs w) (hl : l.length ≤ 6000) (h : ¬ clAt l < l.length) :
    Calls Tryz.prog 64 #[.string (hmk l), .string ⟨#[58]⟩] w fun e w' => e = .returned (.tuple #[.string (hmk l), .string ⟨#[]⟩, .bool false]) ∧ Below w.heap.size w w' := by
  obtain ⟨m, hm⟩ := hm
  have := Any.strings_Cut Tryz.laysM145.ton145 (hmk l) ⟨#[58]⟩ m w (by rw [hmk_size]; omega) hm
  rw [hmk_list, show (⟨#[58]⟩ : ByteArray).data.toList = [58] from rfl, cut_cl_no h] at this
  exact this.mono fun e w' ⟨h1, n, h2⟩ => ⟨h1, h2 ▸ below_drewN w n⟩
theorem hsuffix (s : ByteArray) (w : World) (hs : s.size ≤ 6000) (h0 : ¬ s.data.toList = []) :
    Calls Tryz.prog 82 #[.string s, .string ⟨#[13, 10]⟩] w fun e w' => e = .returned (.bool (linesO s.data.toList).isSome) ∧ w' = w := by
  have := Any.strings_HasSuffix Tryz.lays100 s ⟨#[13, 10]⟩ w (by omega)
  rw [show Lib.hasSuffix s.data.toList (⟨#[13, 10]⟩ : ByteArray).data.toList = (linesO s.data.toList).isSome from (linesO_suffix _ _ (Nat.le_refl _) h0).symm] at this
  exact this
theorem hmk_empty {l : List UInt8} (h : ¬ l = []) : (hmk l).toList.isEmpty = false := by
  rw [ByteArray.toList_eq, hmk_list]
  cases l with
  | nil => exact absurd rfl h
  | cons c r => rfl
theorem str_hmk (s : ByteArray) : s = hmk s.data.toList := by cases s; simp [hmk]
theorem linesO_found {l : List UInt8} (h0 : ¬ l = []) (h : (linesO l).isSome = true) : crAt l < l.length ∧ (linesO (l.drop (crAt l + 2))).isSome = true := by
  by_cases c : crAt l < l.length
  · refine ⟨c, ?_⟩
    rw [linesO_cut c, Option.isSome_map] at h
    exact h
  · rw [linesO_bad h0 c] at h; cases h
theorem readT_none_of {l : List UInt8} (h : (linesO l).isSome = false) : readT l = none := by
  cases c : linesO l with
  | none => exact readT_of_none c
  | some P => rw [c] at h; cases h
def strLen : Value → Nat
  | .string b => b.size
  | _ => 0
theorem trim_hmk (l : List UInt8) (h : l.length ≤ 6000) : (trimT (hmk l)).size ≤ 6000 := by
  have := trimT_size (hmk l)
  rw [hmk_size] at this
  omega
/-- The loop of ReadHeaders: what is read, and what is left. -/
structure ReadAt (s : ByteArray) (R : List Hdr) (rl : List UInt8) : Prop where
  eq : readT s.data.toList = (readT rl).map (R ++ ·)
  isS : (linesO rl).isSome = true
  len : R.length + rl.length ≤ 6000
theorem ReadAt.take {s : ByteArray} {R : List Hdr} {rl : List UInt8} (h : ReadAt s R rl) (h0 : ¬ rl = []) (hc : clAt (rl.take (crAt rl)) < (rl.take (crAt rl)).length) : ReadAt s (R ++ [lineOf (rl.take (crAt rl))]) (rl.drop (crAt rl + 2)) := by
  obtain ⟨h1, h2⟩ := linesO_found h0 h.isS
  have := crAt_room rl h1
  refine ⟨?_, h2, ?_⟩
  · rw [h.eq, readT_take h1 hc, Option.map_map]
    congr 1
    funext x
    simp
  · have hl := h.len
    simp only [List.length_append, List.length_cons, List.length_nil, List.length_drop]
    omega
theorem ReadAt.bad {s : ByteArray} {R : List Hdr} {rl : List UInt8} (h : ReadAt s R rl) (h0 : ¬ rl = []) (hc : ¬ clAt (rl.take (crAt rl)) < (rl.take (crAt rl)).length) : readT s.data.toList = none := by
  rw [h.eq, readT_bad (linesO_found h0 h.isS).1 hc]
  rfl
theorem ReadAt.done {s : ByteArray} {R : List Hdr} (h : ReadAt s R []) : readT s.data.toList = some R := by
  rw [h.eq, readT_nil]
  simp
set_option maxRecDepth 100000 in
set_option maxHeartbeats 16000000 in
theorem implRead_loop (s : ByteArray) (w : World) (hs : ¬ 6000 < s.size) (hset : SetIs w) (hmx : MaxIs w) (hsome : (linesO s.data.toList).isSome = true) (hne : ¬ s.data.toList = []) :
    Calls Tryz.prog 83 #[.string s] w fun e w' => HRes (readHC s) (readHL s) w.heap.size e w' ∧ Below w.heap.size w w' := by
  have R5 : Hid (readT s.data.toList = none → readHC s = 5 ∧ readHL s = []) := fun h => readH_bad hs h
  have RF : Hid (∀ L, readT s.data.toList = some L → headsC L ≠ 0 → readHC s = headsC L ∧ readHL s = []) := fun L h1 h2 => readH_fault hs h1 h2
  have R0 : Hid (∀ L, readT s.data.toList = some L → headsC L = 0 → readHC s = 0 ∧ readHL s = L) := fun L h1 h2 => readH_ok hs h1 h2
  have hh : ¬ (6000 : Int) < s.size := by omega
  have HS : Hid (SetIs w) := hset
  have HMX : Hid (MaxIs w) := hmx
  have H0 : Hid (ReadAt s [] s.data.toList) := ⟨by simp, hsome, by rw [hsize_list]; simp; omega⟩
  have HSX : ¬ s.data.toList = [] → ∀ w, Calls Tryz.prog 82 #[.string s, .string ⟨#[13, 10]⟩] w fun e w' => e = .returned (.bool true) ∧ w' = w := fun h0 w => by
    have := hsuffix s w (by omega) h0
    rw [hsome] at this
    exact this
  have HEM := hmk_empty hne
  rw [← str_hmk] at HEM
  have HSK : Hid (.string s = Value.string (hmk s.data.toList)) := by show _ = _; rw [← str_hmk]
  have HSY := HSX hne
  clear hset hmx hsome hs HSX
  go_enter Tryz.func83, Tryz.ntmps83
  go_wp2_with fail
  refine (HSY _).mono ?_
  rintro e w1 ⟨rfl, rfl⟩
  clear HSY
  go_wp2_with fail
  go_loopw [3, 4] (fun v x wr => ∃ (R : List Hdr) (rl : List UInt8), x = .string (hmk rl) ∧ OwnH wr (w.heap.size + 1) v R ∧ ReadAt s R rl ∧ Below (w.heap.size + 1) (w.alloc (.cells #[.int .i64 0, .slice none 0 0] 84)) wr) (fun _ x _ => strLen x)
  case atStart => exact ⟨[], s.data.toList, HSK.out, OwnH.nil _ _, H0.out, Below.refl _ _⟩
  case round =>
    obtain ⟨R, rl, rfl, ho, hra, hb⟩ := hrel
    have HO : Hid (OwnH wr (w.heap.size + 1) u3 R) := ho
    have HR : Hid (ReadAt s R rl) := hra
    have hz : w.heap.size + 1 ≤ wr.heap.size := by have := hb.size; rwa [World.size_alloc] at this
    have HB : Hid (Below (w.heap.size + 1) (w.alloc (.cells #[.int .i64 0, .slice none 0 0] 84)) wr) := hb
    have hwr : Below w.heap.size w wr := (heads_room hb).2.2.2.2.2
    have HSr : Hid (SetIs wr) := HS.out.below hwr
    have HMr : Hid (MaxIs wr) := HMX.out.below hwr
    have hrl := hra.len
    clear ho hra hb H0 HSK HEM hwr
    by_cases h0 : rl = []
    · subst h0
      have HX : Hid (readT s.data.toList = some R) := HR.out.done
      obtain ⟨ra, rc, hra, hin⟩ := HO.out.at
      subst hra
      have HF := implHFault_any wr ra rc R (by omega) HSr.out hin
      clear HR hin HSr HMr
      rw [show hmk [] = ⟨#[]⟩ from rfl]
      by_cases hc : headsC R = 0
      · have HY : Hid (readHC s = 0 ∧ readHL s = R) := R0.out R HX.out hc
        rw [hc] at HF
        have HO2 : Hid (OwnH wr (w.heap.size + 1) (.slice ra R.length rc) R) := HO.out
        clear HX hc HO
        generalize R.length = rn at *
        go_wp2_with fail
        refine HF.mono ?_
        rintro e w2 ⟨rfl, hb2⟩
        obtain ⟨hz2, q0, q1, f0, f1, kb⟩ := heads_room (HB.out.trans (hb2.mono hz))
        obtain ⟨r0, r1⟩ := two_set (v0 := .int .i64 0) (v1 := .slice ra rn rc) q0 q1
        have HO3 : Hid (OwnH w2 (w.heap.size + 1) (.slice ra rn rc) R) := HO2.out.below hb2
        clear hb2 HB HO2 HF
        go_wp2_with fail
        exact bodyPost_ret (v := .agg #[.int .i64 0, .slice ra rn rc]) (by simp [results, Tryz.results83, go_sem, r0, r1]) rfl ⟨HRes.mk HY.out ((ownH_set (ownH_set HO3.out (Nat.lt_succ_self _)) (Nat.lt_succ_self _)).lower (Nat.le_succ _)), (kb.setCell (Nat.le_refl _) _).setCell (Nat.le_refl _) _⟩
      · have HY : Hid (readHC s = headsC R ∧ readHL s = []) := RF.out R HX.out hc
        generalize headsC R = fc at *
        clear HX HO
        generalize R.length = rn at *
        go_wp2_with fail
        refine HF.mono ?_
        rintro e w2 ⟨rfl, hb2⟩
        obtain ⟨hz2, q0, q1, f0, f1, kb⟩ := heads_room (HB.out.trans (hb2.mono hz))
        obtain ⟨r0, r1⟩ := two_set (v0 := .int .i64 fc) (v1 := .slice none 0 0) q0 q1
        clear hb2 HB HF
        go_wp2_with fail
        exact bodyPost_ret (v := .agg #[.int .i64 fc, .slice none 0 0]) (by simp [results, Tryz.results83, go_sem, r0, r1]) rfl ⟨HRes.mk HY.out (OwnH.nil _ _), (kb.setCell (Nat.le_refl _) _).setCell (Nat.le_refl _) _⟩
    · have hem := hmk_empty h0
      have hcr := (linesO_found h0 HR.out.isS).1
      have hroom := crAt_room rl hcr
      have HC1 : Hid (∀ W, MaxIs W → Calls Tryz.prog 64 #[.string (hmk rl), .string ⟨#[13, 10]⟩] W fun e w' => e = .returned (.tuple #[.string (hmk (rl.take (crAt rl))), .string (hmk (rl.drop (crAt rl + 2))), .bool true]) ∧ Below W.heap.size W w') := fun W h => hcut_cr rl W h (by omega) hcr
      have hpl : (rl.take (crAt rl)).length ≤ 6000 := by rw [List.length_take]; omega
      have hms : (hmk (rl.drop (crAt rl + 2))).size < (hmk rl).size := by rw [hmk_size, hmk_size, List.length_drop]; omega
      have HTK := HR.out.take h0
      have HBD := HR.out.bad h0
      generalize rl.take (crAt rl) = p at *
      generalize rl.drop (crAt rl + 2) = rr at *
      have HTK2 : Hid (clAt p < p.length → ReadAt s (R ++ [lineOf p]) rr) := HTK
      have HBD2 : Hid (¬ clAt p < p.length → readT s.data.toList = none) := HBD
      have hRl : R.length ≤ 6000 := by omega
      clear HTK HBD HR h0 hcr hroom hrl
      generalize hmk rl = rb at *
      by_cases hcl : clAt p < p.length
      · have HN : Hid (ReadAt s (R ++ [⟨hmk (p.take (clAt p)), trimT (hmk (p.drop (clAt p + 1)))⟩]) rr) := HTK2.out hcl
        have HC2 : Hid (∀ W, MaxIs W → Calls Tryz.prog 64 #[.string (hmk p), .string ⟨#[58]⟩] W fun e w' => e = .returned (.tuple #[.string (hmk (p.take (clAt p))), .string (hmk (p.drop (clAt p + 1))), .bool true]) ∧ Below W.heap.size W w') := fun W h => hcut_cl p W h hpl hcl
        have z1 : (hmk (p.take (clAt p))).size ≤ 6000 := by rw [hmk_size, List.length_take]; omega
        have hvl : (p.drop (clAt p + 1)).length ≤ 6000 := by rw [List.length_drop]; omega
        have z2 : (hmk (p.drop (clAt p + 1))).size ≤ 6000 := by rw [hmk_size]; exact hvl
        have z3 := trim_hmk _ hvl
        generalize hmk (p.take (clAt p)) = nb at *
        generalize hmk (p.drop (clAt p + 1)) = vb at *
        have HTR : Hid (∀ w, Calls Tryz.prog 123 #[.string vb, .string ⟨#[32, 9]⟩] w fun e w' => e = .returned (.string (trimT vb)) ∧ Below w.heap.size w w') := fun w => trim_big vb w (by omega)
        generalize trimT vb = tb at *
        generalize hmk p = pb at *
        clear HTK2 HBD2 hcl hvl
        go_wp2_with fail
        refine (HC1.out _ HMr.out).mono ?_
        rintro e w2 ⟨rfl, hb2⟩
        have HB2 : Hid (Below wr.heap.size wr w2) := hb2
        clear hb2
        go_wp2_with fail
        refine (HC2.out _ (HMr.out.below HB2.out)).mono ?_
        rintro e w3 ⟨rfl, hb3⟩
        have HB3 : Hid (Below wr.heap.size wr w3) := HB2.out.trans (hb3.mono HB2.out.size)
        clear hb3 HB2
        go_wp2_with fail
        refine (HTR.out _).mono ?_
        rintro e w4 ⟨rfl, hb4⟩
        have HB4 : Hid (Below wr.heap.size wr w4) := HB3.out.trans (hb4.mono HB3.out.size)
        clear hb4 HB3
        go_wp2_with fail
        refine (lineOf_any nb tb _ (by omega) (by omega)).mono ?_
        rintro e w5 ⟨rfl, hb5⟩
        have HB5 : Hid (Below wr.heap.size wr w5) := HB4.out.trans (hb5.mono HB4.out.size)
        have HO5 : Hid (OwnH w5 (w.heap.size + 1) u3 R) := HO.out.below HB5.out
        have HBw : Hid (Below (w.heap.size + 1) (w.alloc (.cells #[.int .i64 0, .slice none 0 0] 84)) w5) := HB.out.trans (HB5.out.mono hz)
        have hz5 : w.heap.size + 1 ≤ w5.heap.size := Nat.le_trans hz HB5.out.size
        clear hb5 HB4 HB5 HO HB HSr HMr
        go_wp2_with (at_builtin; refine wpList_append_hdr _ rfl (.tmp 42) (.tmp 47) rfl (w.heap.size + 1) _ R nb tb rfl rfl HO5.out (by omega) hz5 ?_; intro v6 w6 HO6 hb6 hz6 hk6)
        go_roundw
        case rel => exact ⟨R ++ [⟨nb, tb⟩], rr, rfl, HO6, HN.out, HBw.out.trans hb6⟩
        case measure => simpa [strLen] using hms
      · have HX : Hid (readHC s = 5 ∧ readHL s = []) := R5.out (HBD2.out hcl)
        have HC2 : Hid (∀ W, MaxIs W → Calls Tryz.prog 64 #[.string (hmk p), .string ⟨#[58]⟩] W fun e w' => e = .returned (.tuple #[.string (hmk p), .string ⟨#[]⟩, .bool false]) ∧ Below W.heap.size W w') := fun W h => hcut_no p W h hpl hcl
        generalize hmk p = pb at *
        clear HTK2 HBD2 hcl HO
        go_wp2_with fail
        refine (HC1.out _ HMr.out).mono ?_
        rintro e w2 ⟨rfl, hb2⟩
        have HB2 : Hid (Below wr.heap.size wr w2) := hb2
        clear hb2
        go_wp2_with fail
        refine (HC2.out _ (HMr.out.below HB2.out)).mono ?_
        rintro e w3 ⟨rfl, hb3⟩
        have HB3 : Below wr.heap.size wr w3 := HB2.out.trans (hb3.mono HB2.out.size)
        obtain ⟨hz2, q0, q1, f0, f1, kb⟩ := heads_room (HB.out.trans (HB3.mono hz))
        obtain ⟨r0, r1⟩ := two_set (v0 := .int .i64 5) (v1 := .slice none 0 0) q0 q1
        clear hb3 HB2 HB3 HB HMr HSr
        go_wp2_with fail
        exact bodyPost_ret (v := .agg #[.int .i64 5, .slice none 0 0]) (by simp [results, Tryz.results83, go_sem, r0, r1]) rfl ⟨HRes.mk HX.out (OwnH.nil _ _), (kb.setCell (Nat.le_refl _) _).setCell (Nat.le_refl _) _⟩
theorem readH_none : readHC ⟨#[]⟩ = 0 ∧ readHL ⟨#[]⟩ = [] := readH_ok (L := []) (by decide) readT_nil rfl
set_option maxRecDepth 100000 in
set_option maxHeartbeats 2000000 in
theorem implRead_none (w : World) (hset : SetIs w) :
    Calls Tryz.prog 83 #[.string ⟨#[]⟩] w fun e w' => HRes (readHC ⟨#[]⟩) (readHL ⟨#[]⟩) w.heap.size e w' ∧ Below w.heap.size w w' := by
  have HF := implHFault_any (w.alloc (.cells #[.int .i64 0, .slice none 0 0] 84)) none 0 [] (by simp) (hset.below ((Below.refl _ _).alloc (Nat.le_refl _) _)) (.inl rfl)
  rw [show headsC [] = 0 from rfl] at HF
  simp only [List.length_nil] at HF
  clear hset
  go_enter Tryz.func83, Tryz.ntmps83
  go_wp2_with fail
  go_loop [3, 4] (fun v x => v = .slice none 0 0 ∧ x = .string ⟨#[]⟩) (fun _ _ => 0)
  case atStart => exact ⟨rfl, rfl⟩
  case round =>
    obtain ⟨rfl, rfl⟩ := hrel
    go_wp2_with fail
    refine HF.mono ?_
    rintro e w2 ⟨rfl, hb2⟩
    rw [World.size_alloc] at hb2
    obtain ⟨hz2, q0, q1, f0, f1, kb⟩ := heads_room hb2
    obtain ⟨r0, r1⟩ := two_set (v0 := .int .i64 0) (v1 := .slice none 0 0) q0 q1
    clear hb2 HF
    go_wp2_with fail
    exact bodyPost_ret (v := .agg #[.int .i64 0, .slice none 0 0]) (by simp [results, Tryz.results83, go_sem, r0, r1]) rfl ⟨HRes.mk readH_none (OwnH.nil _ _), (kb.setCell (Nat.le_refl _) _).setCell (Nat.le_refl _) _⟩
set_option maxHeartbeats 2000000 in
theorem implRead_any (s : ByteArray) (w : World) (hset : SetIs w) (hmx : MaxIs w) :
    Calls Tryz.prog 83 #[.string s] w fun e w' => HRes (readHC s) (readHL s) w.heap.size e w' ∧ Below w.heap.size w w' := by
  by_cases hs : 6000 < s.size
  · have hh : (6000 : Int) < s.size := by omega
    have HL : Hid (readHC s = 2 ∧ readHL s = []) := readH_long hs
    clear hset hmx
    go_enter Tryz.func83, Tryz.ntmps83
    go_wp2
    exact bodyPost_ret (v := .agg #[.int .i64 2, .slice none 0 0]) (by simp [results, Tryz.results83, go_sem]) rfl ⟨HRes.mk HL.out (OwnH.nil _ _), (Below.refl _ _).alloc (Nat.le_refl _) _⟩
  cases hsm : (linesO s.data.toList).isSome
  · have h0 : ¬ s.data.toList = [] := fun e => by rw [e, linesO_nil] at hsm; cases hsm
    have HX : Hid (readHC s = 5 ∧ readHL s = []) := readH_bad hs (readT_none_of hsm)
    have HSX : Hid (∀ w, Calls Tryz.prog 82 #[.string s, .string ⟨#[13, 10]⟩] w fun e w' => e = .returned (.bool false) ∧ w' = w) := fun w => by
      have := hsuffix s w (by omega) h0
      rw [hsm] at this
      exact this
    have hem := hmk_empty h0
    rw [← str_hmk] at hem
    have hh : ¬ (6000 : Int) < s.size := by omega
    clear hset hmx hsm h0 hs
    go_enter Tryz.func83, Tryz.ntmps83
    go_wp2_with fail
    refine (HSX.out _).mono ?_
    rintro e w1 ⟨rfl, rfl⟩
    go_wp2_with fail
    exact bodyPost_ret (v := .agg #[.int .i64 5, .slice none 0 0]) (by simp [results, Tryz.results83, go_sem]) rfl ⟨HRes.mk HX.out (OwnH.nil _ _), (Below.refl _ _).alloc (Nat.le_refl _) _⟩
  · by_cases hne : s.data.toList = []
    · have e : s = ⟨#[]⟩ := by rw [str_hmk s, hne]; rfl
      subst e
      exact implRead_none w hset
    · exact implRead_loop s w hs hset hmx hsm hne
end Go.Proofs.YtonnggelpjjmmaaGreatDoor
/-
  What the model's SameHeaders and slices.Equal over head lines answer.
-/
namespace Go.Proofs.YtonnggelpjjmmaaGreatDoor
open Go.ChangeShapes Go.WideShapes Go.ChangeAt Go.RowKit Go.Sort
def sameH (x y : Hdr) : Bool := (x.name.toList == y.name.toList) && (x.value.toList == y.value.toList)
def sameHs : List Hdr → List Hdr → Bool
  | [], [] => true
  | x :: l, y :: m => sameH x y && sameHs l m
  | _, _ => false
theorem guardHeader (op : BinOp) (a b : Operand) (x y : Array Value) (w : World) : (eqGuard op 58 a b (.agg x) (.agg y)).run Tryz.prog w = .ok () w := run_eqGuard_agg w op 58 a b x y (by kernel_rfl)
theorem neqHeader (x y : Hdr) (w : World) : (binOp .neq 58 (.agg #[.string x.name, .string x.value]) (.agg #[.string y.name, .string y.value])).run Tryz.prog w = .ok (.bool (!sameH x y)) w := by
  have u9 := Tryz.underlying9
  have a9 := Tryz.isAgg9
  have z9 := Tryz.sizeOf9
  have hS : Tryz.prog.underlying 58 = some (.struct (Tryz.prog.fieldsOf 58)) := by kernel_rfl
  have hp : Tryz.prog.stoodInHeld 58 = false := by kernel_rfl
  obtain ⟨n1, v1⟩ := x
  obtain ⟨n2, v2⟩ := y
  simp only [sameH]
  rw [run_neq_struct, show (10000 : Nat) = 9999 + 1 from rfl, run_equalIn_agg w 9999 58 _ _ hS hp]
  simp only [Program.fieldsOf, Tryz.underlying58]
  go_simp
  by_cases e1 : n1.toList = n2.toList <;> by_cases e3 : v1.toList = v2.toList <;> simp [e1, e3]
end Go.Proofs.YtonnggelpjjmmaaGreatDoor
/-
  What the model's SameHeaders and slices.Equal over head lines answer, and SameHeaders.
-/
namespace Go.Proofs.YtonnggelpjjmmaaGreatDoor
open Go.ChangeShapes Go.WideShapes Go.ChangeAt Go.RowKit Go.Sort
theorem sameHs_lens : ∀ (l m : List Hdr), l.length ≠ m.length → sameHs l m = false
  | [], [], h => absurd rfl h
  | [], _ :: _, _ => rfl
  | _ :: _, [], _ => rfl
  | x :: l, y :: m, h => by
    rw [sameHs, sameHs_lens l m (by simpa using h), Bool.and_false]
theorem sameHs_drop {l m : List Hdr} {k : Nat} {x y : Hdr} (hx : l[k]? = some x) (hy : m[k]? = some y) : sameHs (l.drop k) (m.drop k) = (sameH x y && sameHs (l.drop (k + 1)) (m.drop (k + 1))) := by
  rw [drop_hdr l k x hx, drop_hdr m k y hy, sameHs]
set_option maxRecDepth 100000 in
set_option maxHeartbeats 4000000 in
theorem specSameH_any (w : World) (a b : Option Addr) (ca cb : Nat) (l m : List Hdr) (hl : l.length ≤ 1048576) (h1 : HdsIn w a l) (h2 : HdsIn w b m) :
    Calls Tryz.prog 46 #[.slice a l.length ca, .slice b m.length cb] w fun e w' => e = .returned (.bool (sameHs l m)) ∧ Below w.heap.size w w' := by
  have H1 : Hid (HdsIn w a l) := h1
  have H2 : Hid (HdsIn w b m) := h2
  clear h1 h2
  by_cases hlen : l.length = m.length
  · have HM : Hid (m.length = l.length) := hlen.symm
    rw [← hlen]
    clear hlen
    generalize hn : l.length = n at *
    have HN : Hid (l.length = n) := hn
    clear hn
    go_enter Tryz.func46, Tryz.ntmps46
    go_wp2_with fail
    go_loopw [5] (fun i wr => ∃ k : Nat, k ≤ n ∧ i = .int .i64 k ∧ sameHs l m = sameHs (l.drop k) (m.drop k) ∧ Below w.heap.size w wr) (fun i _ => n - (intOf i).toNat)
    case atStart => exact ⟨0, Nat.zero_le _, rfl, rfl, Below.refl _ _⟩
    case round =>
      obtain ⟨k, hk, rfl, hs, hb⟩ := hrel
      have HS : Hid (sameHs l m = sameHs (l.drop k) (m.drop k)) := hs
      clear hs
      by_cases hlt : k < n
      · obtain ⟨x, hx⟩ : ∃ r, l[k]? = some r := ⟨l[k]'(by have := HN.out; omega), List.getElem?_eq_getElem _⟩
        obtain ⟨y, hy⟩ : ∃ r, m[k]? = some r := ⟨m[k]'(by have := HM.out; have := HN.out; omega), List.getElem?_eq_getElem _⟩
        rcases H1.out with h | ⟨b1, o1, rfl, at1⟩
        · subst h; simp at hx
        rcases H2.out with h | ⟨b2, o2, rfl, at2⟩
        · subst h; simp at hy
        obtain ⟨p1, p3⟩ := (at1.keep hb) k x hx
        obtain ⟨q1, q3⟩ := (at2.keep hb) k y hy
        have x1 := cell_regrown p1
        have x3 := cell_regrown p3
        have y1 := cell_regrown q1
        have y3 := cell_regrown q3
        have hne := neqHeader x y
        have hgd := guardHeader
        have HD : Hid (sameHs l m = (sameH x y && sameHs (l.drop (k + 1)) (m.drop (k + 1)))) := by show _ = _; rw [HS.out, sameHs_drop hx hy]
        have g0 : (0 : Int) ≤ k := by omega
        have g : (k : Int) < n := by omega
        clear hx hy p1 p3 q1 q3 at1 at2 HS
        generalize x.name = xn at *
        generalize x.value = xv at *
        generalize y.name = yn at *
        generalize y.value = yv at *
        cases hsame : sameH x y
        · rw [hsame] at hne
          have HE : Hid (sameHs l m = false) := by show _ = _; rw [HD.out, hsame, Bool.false_and]
          clear HD hsame
          simp only [Bool.not_false] at hne
          go_wp2_with fail
          refine wp_region_quiet_below (by kernel_rfl) (by kernel_rfl) ?_
          repeat (go_big_quiet_step (fail))
          refine wpQuiet_nil ?_
          intro w2 hw2
          have hbb : Below w.heap.size w w2 := by
            obtain ⟨⟨d, os⟩, rfl⟩ := hw2
            exact hb.trans ((below_regrown wr d os).mono hb.size)
          clear x1 x3 y1 y3 hne hgd hw2 hb
          go_wp2_with fail
          go_ret
          exact ⟨ret_bool HE.out.symm, hbb⟩
        · rw [hsame] at hne
          have HE : Hid (sameHs l m = sameHs (l.drop (k + 1)) (m.drop (k + 1))) := by show _ = _; rw [HD.out, hsame, Bool.true_and]
          clear HD hsame
          simp only [Bool.not_true] at hne
          go_wp2_with fail
          refine wp_region_quiet_below (by kernel_rfl) (by kernel_rfl) ?_
          repeat (go_big_quiet_step (fail))
          refine wpQuiet_nil ?_
          intro w2 hw2
          have hbb : Below w.heap.size w w2 := by
            obtain ⟨⟨d, os⟩, rfl⟩ := hw2
            exact hb.trans ((below_regrown wr d os).mono hb.size)
          clear x1 x3 y1 y3 hne hgd hw2 hb
          go_wp2_with fail
          go_roundw
          case rel => exact ⟨k + 1, by omega, by go_num, HE.out, hbb⟩
          case measure => simp [intOf]; omega
      · have HE : Hid (sameHs l m = true) := by
          show _ = _
          rw [HS.out, List.drop_of_length_le (by have := HN.out; omega), List.drop_of_length_le (by have := HM.out; have := HN.out; omega)]
          rfl
        clear HS
        go_wp2_with fail
        go_ret
        exact ⟨ret_bool HE.out.symm, hb⟩
  · have HE : Hid (sameHs l m = false) := sameHs_lens l m hlen
    have g : ¬ (l.length : Int) = (m.length : Int) := by omega
    have g2 : ((l.length : Int) != (m.length : Int)) = true := by simpa using g
    clear H1 H2
    generalize l.length = n at *
    generalize m.length = n2 at *
    go_enter Tryz.func46, Tryz.ntmps46
    go_wp2_with fail
    go_ret
    exact ⟨ret_bool HE.out.symm, Below.refl _ _⟩
set_option maxRecDepth 100000 in
set_option maxHeartbeats 4000000 in
theorem equalHeaders_any (w : World) (a b : Option Addr) (ca cb : Nat) (l m : List Hdr) (hl : l.length ≤ 1048576) (h1 : HdsIn w a l) (h2 : HdsIn w b m) :
    Calls Tryz.prog 87 #[.slice a l.length ca, .slice b m.length cb] w fun e w' => e = .returned (.bool (sameHs l m)) ∧ Below w.heap.size w w' := by
  have H1 : Hid (HdsIn w a l) := h1
  have H2 : Hid (HdsIn w b m) := h2
  clear h1 h2
  by_cases hlen : l.length = m.length
  · have HM : Hid (m.length = l.length) := hlen.symm
    rw [← hlen]
    clear hlen
    generalize hn : l.length = n at *
    have HN : Hid (l.length = n) := hn
    clear hn
    go_enter Tryz.func87, Tryz.ntmps87
    go_wp2_with fail
    go_loopw [13] (fun i wr => ∃ k : Nat, k ≤ n ∧ i = .int .i64 k ∧ sameHs l m = sameHs (l.drop k) (m.drop k) ∧ Below w.heap.size w wr) (fun i _ => n - (intOf i).toNat)
    case atStart => exact ⟨0, Nat.zero_le _, rfl, rfl, Below.refl _ _⟩
    case round =>
      obtain ⟨k, hk, rfl, hs, hb⟩ := hrel
      have HS : Hid (sameHs l m = sameHs (l.drop k) (m.drop k)) := hs
      clear hs
      by_cases hlt : k < n
      · obtain ⟨x, hx⟩ : ∃ r, l[k]? = some r := ⟨l[k]'(by have := HN.out; omega), List.getElem?_eq_getElem _⟩
        obtain ⟨y, hy⟩ : ∃ r, m[k]? = some r := ⟨m[k]'(by have := HM.out; have := HN.out; omega), List.getElem?_eq_getElem _⟩
        rcases H1.out with h | ⟨b1, o1, rfl, at1⟩
        · subst h; simp at hx
        rcases H2.out with h | ⟨b2, o2, rfl, at2⟩
        · subst h; simp at hy
        obtain ⟨p1, p3⟩ := (at1.keep hb) k x hx
        obtain ⟨q1, q3⟩ := (at2.keep hb) k y hy
        have x1 := cell_regrown p1
        have x3 := cell_regrown p3
        have y1 := cell_regrown q1
        have y3 := cell_regrown q3
        have hne := neqHeader x y
        have hgd := guardHeader
        have HD : Hid (sameHs l m = (sameH x y && sameHs (l.drop (k + 1)) (m.drop (k + 1)))) := by show _ = _; rw [HS.out, sameHs_drop hx hy]
        have g0 : (0 : Int) ≤ k := by omega
        have g : (k : Int) < n := by omega
        clear hx hy p1 p3 q1 q3 at1 at2 HS
        generalize x.name = xn at *
        generalize x.value = xv at *
        generalize y.name = yn at *
        generalize y.value = yv at *
        cases hsame : sameH x y
        · rw [hsame] at hne
          have HE : Hid (sameHs l m = false) := by show _ = _; rw [HD.out, hsame, Bool.false_and]
          clear HD hsame
          simp only [Bool.not_false] at hne
          go_wp2_with fail
          refine wp_region_quiet_below (by kernel_rfl) (by kernel_rfl) ?_
          repeat (go_big_quiet_step (fail))
          refine wpQuiet_nil ?_
          intro w2 hw2
          have hbb : Below w.heap.size w w2 := by
            obtain ⟨⟨d, os⟩, rfl⟩ := hw2
            exact hb.trans ((below_regrown wr d os).mono hb.size)
          clear x1 x3 y1 y3 hne hgd hw2 hb
          go_wp2_with fail
          go_ret
          exact ⟨ret_bool HE.out.symm, hbb⟩
        · rw [hsame] at hne
          have HE : Hid (sameHs l m = sameHs (l.drop (k + 1)) (m.drop (k + 1))) := by show _ = _; rw [HD.out, hsame, Bool.true_and]
          clear HD hsame
          simp only [Bool.not_true] at hne
          go_wp2_with fail
          refine wp_region_quiet_below (by kernel_rfl) (by kernel_rfl) ?_
          repeat (go_big_quiet_step (fail))
          refine wpQuiet_nil ?_
          intro w2 hw2
          have hbb : Below w.heap.size w w2 := by
            obtain ⟨⟨d, os⟩, rfl⟩ := hw2
            exact hb.trans ((below_regrown wr d os).mono hb.size)
          clear x1 x3 y1 y3 hne hgd hw2 hb
          go_wp2_with fail
          go_roundw
          case rel => exact ⟨k + 1, by omega, by go_num, HE.out, hbb⟩
          case measure => simp [intOf]; omega
      · have HE : Hid (sameHs l m = true) := by
          show _ = _
          rw [HS.out, List.drop_of_length_le (by have := HN.out; omega), List.drop_of_length_le (by have := HM.out; have := HN.out; omega)]
          rfl
        clear HS
        go_wp2_with fail
        go_ret
        exact ⟨ret_bool HE.out.symm, hb⟩
  · have HE : Hid (sameHs l m = false) := sameHs_lens l m hlen
    have g : ¬ (l.length : Int) = (m.length : Int) := by omega
    have g2 : ((l.length : Int) != (m.length : Int)) = true := by simpa using g
    clear H1 H2
    generalize l.length = n at *
    generalize m.length = n2 at *
    go_enter Tryz.func87, Tryz.ntmps87
    go_wp2_with fail
    go_ret
    exact ⟨ret_bool HE.out.symm, Below.refl _ _⟩
set_option maxHeartbeats 400000 in
theorem implSameH_any (w : World) (a b : Option Addr) (ca cb : Nat) (l m : List Hdr) (hl : l.length ≤ 1048576) (h1 : HdsIn w a l) (h2 : HdsIn w b m) :
    Calls Tryz.prog 43 #[.slice a l.length ca, .slice b m.length cb] w fun e w' => e = .returned (.bool (sameHs l m)) ∧ Below w.heap.size w w' := by
  have HC : Hid (Calls Tryz.prog 87 #[.slice a l.length ca, .slice b m.length cb] w fun e w' => e = .returned (.bool (sameHs l m)) ∧ Below w.heap.size w w') := equalHeaders_any w a b ca cb l m hl h1 h2
  clear h1 h2 hl
  go_enter Tryz.func43, Tryz.ntmps43
  go_wp2_with fail
  refine HC.out.mono ?_
  rintro e w1 ⟨rfl, hb⟩
  go_wp2_with fail
  go_ret
  exact ⟨rfl, hb⟩
end Go.Proofs.YtonnggelpjjmmaaGreatDoor
