/-
  Flights, held against each other by the laws.
-/
import Derived.Test.YtgejegmilkmiiaaFlTo
import Derived.Test.YtgejegmilkmiiaaHeadsEq
namespace Go.Proofs.Ytgejegmilkmiiaa
open Go.ChangeShapes Go.WideShapes Go.ChangeAt Go.RowKit Go.Sort
set_option maxHeartbeats 4000000 in
theorem eqRequest_in (W : World) (m h p : ByteArray) (h1 h2 : Option Addr) (k1 k2 : Nat) (hs : List Hdr) (hl : hs.length ≤ 1048576) (i1 : HdsIn W h1 hs) (i2 : HdsIn W h2 hs) :
    Calls Try.prog 24 #[.agg #[.string m, .string h, .string p, .slice h1 hs.length k1], .agg #[.string m, .string h, .string p, .slice h2 hs.length k2]] W fun e w' => e = .returned (.bool true) ∧ Below W.heap.size W w' := by
  have bW : Below W.heap.size W ((W.alloc (.cells #[.string m, .string h, .string p, .slice h1 hs.length k1] 37)).alloc (.cells #[.string m, .string h, .string p, .slice h2 hs.length k2] 37)) := ((Below.refl _ _).alloc (Nat.le_refl _) _).alloc (by simp) _
  have C := eqHeaderS_at _ h1 h2 k1 k2 hs hl (i1.keep bW) (i2.keep bW)
  have HB : Hid (Below W.heap.size W ((W.alloc (.cells #[.string m, .string h, .string p, .slice h1 hs.length k1] 37)).alloc (.cells #[.string m, .string h, .string p, .slice h2 hs.length k2] 37))) := bW
  clear bW i1 i2 hl
  generalize hs.length = n at *
  go_enter Try.func24, Try.ntmps24
  go_wp2_with fail
  refine C.mono ?_
  rintro r w1 ⟨rfl, hb1⟩
  have HB1 : Hid (Below W.heap.size W w1) := HB.out.trans (hb1.mono HB.out.size)
  clear hb1 C HB
  go_wp2_with fail
  go_ret
  exact ⟨rfl, HB1.out⟩
set_option maxHeartbeats 8000000 in
theorem eqFlight_same (w : World) (id : Int) (key : ByteArray) (bk ot : Bool) (du : Int) (dm : Bool) (m h p : ByteArray) (h1 h2 : Option Addr) (k1 k2 : Nat) (w1 w2 : Option Addr) (c1 c2 : Nat) (hs : List Hdr) (ws : List Wr) (hhl : hs.length ≤ 1048576) (hwl : ws.length ≤ 1048576) (i1 : HdsIn w h1 hs) (i2 : HdsIn w h2 hs) (j1 : WrIn w w1 ws) (j2 : WrIn w w2 ws) :
    Calls Try.prog 15 #[.agg #[.int .i64 id, .string key, .bool bk, .bool ot, .int .i64 du, .bool dm, .string m, .string h, .string p, .slice h1 hs.length k1, .slice w1 ws.length c1], .agg #[.int .i64 id, .string key, .bool bk, .bool ot, .int .i64 du, .bool dm, .string m, .string h, .string p, .slice h2 hs.length k2, .slice w2 ws.length c2]] w fun e w' => e = .returned (.bool true) ∧ Below w.heap.size w w' := by
  have HB : Hid (Below w.heap.size w ((w.alloc (.cells #[.int .i64 id, .string key, .bool bk, .bool ot, .int .i64 du, .bool dm, .string m, .string h, .string p, .slice h1 hs.length k1, .slice w1 ws.length c1] 40)).alloc (.cells #[.int .i64 id, .string key, .bool bk, .bool ot, .int .i64 du, .bool dm, .string m, .string h, .string p, .slice h2 hs.length k2, .slice w2 ws.length c2] 40))) := ((Below.refl _ _).alloc (Nat.le_refl _) _).alloc (by simp) _
  have HC1 : Hid (E11 ((w.alloc (.cells #[.int .i64 id, .string key, .bool bk, .bool ot, .int .i64 du, .bool dm, .string m, .string h, .string p, .slice h1 hs.length k1, .slice w1 ws.length c1] 40)).alloc (.cells #[.int .i64 id, .string key, .bool bk, .bool ot, .int .i64 du, .bool dm, .string m, .string h, .string p, .slice h2 hs.length k2, .slice w2 ws.length c2] 40)) w.heap.size (.int .i64 id) (.string key) (.bool bk) (.bool ot) (.int .i64 du) (.bool dm) (.string m) (.string h) (.string p) (.slice h1 hs.length k1) (.slice w1 ws.length c1)) := (E11.new w _ _ _ _ _ _ _ _ _ _ _ _).keep ((Below.refl _ _).alloc (Nat.le_refl _) _)
  have HC2 : Hid (E11 ((w.alloc (.cells #[.int .i64 id, .string key, .bool bk, .bool ot, .int .i64 du, .bool dm, .string m, .string h, .string p, .slice h1 hs.length k1, .slice w1 ws.length c1] 40)).alloc (.cells #[.int .i64 id, .string key, .bool bk, .bool ot, .int .i64 du, .bool dm, .string m, .string h, .string p, .slice h2 hs.length k2, .slice w2 ws.length c2] 40)) (w.heap.size + 1) (.int .i64 id) (.string key) (.bool bk) (.bool ot) (.int .i64 du) (.bool dm) (.string m) (.string h) (.string p) (.slice h2 hs.length k2) (.slice w2 ws.length c2)) := by
    have := E11.new (w.alloc (.cells #[.int .i64 id, .string key, .bool bk, .bool ot, .int .i64 du, .bool dm, .string m, .string h, .string p, .slice h1 hs.length k1, .slice w1 ws.length c1] 40)) (.int .i64 id) (.string key) (.bool bk) (.bool ot) (.int .i64 du) (.bool dm) (.string m) (.string h) (.string p) (.slice h2 hs.length k2) (.slice w2 ws.length c2) 40
    show E11 ((w.alloc (.cells #[.int .i64 id, .string key, .bool bk, .bool ot, .int .i64 du, .bool dm, .string m, .string h, .string p, .slice h1 hs.length k1, .slice w1 ws.length c1] 40)).alloc (.cells #[.int .i64 id, .string key, .bool bk, .bool ot, .int .i64 du, .bool dm, .string m, .string h, .string p, .slice h2 hs.length k2, .slice w2 ws.length c2] 40)) (w.heap.size + 1) (.int .i64 id) (.string key) (.bool bk) (.bool ot) (.int .i64 du) (.bool dm) (.string m) (.string h) (.string p) (.slice h2 hs.length k2) (.slice w2 ws.length c2)
    simpa using this
  have HQ : Hid (∀ X, Below w.heap.size w X → Calls Try.prog 24 #[.agg #[.string m, .string h, .string p, .slice h1 hs.length k1], .agg #[.string m, .string h, .string p, .slice h2 hs.length k2]] X fun e w' => e = .returned (.bool true) ∧ Below X.heap.size X w') := fun X hb => eqRequest_in X m h p h1 h2 k1 k2 hs hhl (i1.keep hb) (i2.keep hb)
  have HWS : Hid (∀ X, Below w.heap.size w X → Calls Try.prog 25 #[.slice w1 ws.length c1, .slice w2 ws.length c2] X fun e w' => e = .returned (.bool true) ∧ Below X.heap.size X w') := fun X hb => eqWrS_same X w1 w2 c1 c2 ws hwl (j1.keep hb) (j2.keep hb)
  obtain ⟨V, hV⟩ : ∃ V, V = ((w.alloc (.cells #[.int .i64 id, .string key, .bool bk, .bool ot, .int .i64 du, .bool dm, .string m, .string h, .string p, .slice h1 hs.length k1, .slice w1 ws.length c1] 40)).alloc (.cells #[.int .i64 id, .string key, .bool bk, .bool ot, .int .i64 du, .bool dm, .string m, .string h, .string p, .slice h2 hs.length k2, .slice w2 ws.length c2] 40)) := ⟨_, rfl⟩
  have HV : Hid (V = ((w.alloc (.cells #[.int .i64 id, .string key, .bool bk, .bool ot, .int .i64 du, .bool dm, .string m, .string h, .string p, .slice h1 hs.length k1, .slice w1 ws.length c1] 40)).alloc (.cells #[.int .i64 id, .string key, .bool bk, .bool ot, .int .i64 du, .bool dm, .string m, .string h, .string p, .slice h2 hs.length k2, .slice w2 ws.length c2] 40))) := hV
  rw [← hV] at HB HC1 HC2
  clear hV i1 i2 j1 j2 hhl hwl
  generalize hs.length = hl at *
  generalize ws.length = wn at *
  go_enter Try.func15, Try.ntmps15
  go_wp2_with fail
  rw [← HV.out]
  refine (HQ.out _ HB.out).mono ?_
  rintro r v1 ⟨rfl, hb1⟩
  have HB1 : Hid (Below w.heap.size w v1) := HB.out.trans (hb1.mono HB.out.size)
  have q1 := (HC1.out.keep hb1).c10
  have q2 := (HC2.out.keep hb1).c10
  clear hb1 HB HC1 HC2 HV HQ
  go_wp2_with fail
  refine (HWS.out _ HB1.out).mono ?_
  rintro r v2 ⟨rfl, hb2⟩
  have HB2 : Hid (Below w.heap.size w v2) := HB1.out.trans (hb2.mono HB1.out.size)
  clear hb2 HB1 HWS q1 q2
  go_wp2_with fail
  go_ret
  exact ⟨rfl, HB2.out⟩
end Go.Proofs.Ytgejegmilkmiiaa
