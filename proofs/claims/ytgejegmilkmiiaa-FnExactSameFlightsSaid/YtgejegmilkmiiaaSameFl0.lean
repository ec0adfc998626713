/-
  Two flights, held against each other: pieces.
-/
import Derived.Test.YtgejegmilkmiiaaFlToS
import Derived.Test.YtgejegmilkmiiaaSameWr
import Derived.Test.YtgejegmilkmiiaaSameReq
namespace Go.Proofs.Ytgejegmilkmiiaa
open Go.ChangeShapes Go.WideShapes Go.ChangeAt Go.RowKit Go.Sort
def sameC (x y : Fl) : Bool := decide (x.id = y.id) && (x.bk == y.bk) && (x.ot == y.ot) && decide (x.du = y.du) && (x.dm == y.dm)
def sameF (x y : Fl) : Bool := sameC x y && ((x.key.toList == y.key.toList) && sameQ x.m x.h x.p x.hs y.m y.h y.p y.hs) && sameRs x.ws y.ws
theorem guardCourse (op : BinOp) (a b : Operand) (x y : Array Value) (w : World) : (eqGuard op 56 a b (.agg x) (.agg y)).run Try.prog w = .ok () w := run_eqGuard_agg w op 56 a b x y (by kernel_rfl)
theorem eqlCourse (x y : Fl) (w : World) : (binOp .eql 56 (.agg #[.int .i64 x.id, .bool x.bk, .bool x.ot, .int .i64 x.du, .bool x.dm]) (.agg #[.int .i64 y.id, .bool y.bk, .bool y.ot, .int .i64 y.du, .bool y.dm])).run Try.prog w = .ok (.bool (sameC x y)) w := by
  have u9 := Try.underlying2
  have a9 := Try.isAgg2
  have z9 := Try.sizeOf2
  have u8 := Try.underlying4
  have a8 := Try.isAgg4
  have z8 := Try.sizeOf4
  have hS : Try.prog.underlying 56 = some (.struct (Try.prog.fieldsOf 56)) := by kernel_rfl
  have hp : Try.prog.stoodInHeld 56 = false := by kernel_rfl
  obtain ⟨i1, k1, b1, o1, d1, m1, _, _, _, _, _⟩ := x
  obtain ⟨i2, k2, b2, o2, d2, m2, _, _, _, _, _⟩ := y
  simp only [sameC]
  rw [run_eql_struct, show (10000 : Nat) = 9999 + 1 from rfl, run_equalIn_agg w 9999 56 _ _ hS hp]
  simp only [Program.fieldsOf, Try.underlying56]
  go_simp
  by_cases e1 : i1 = i2 <;> by_cases e3 : d1 = d2 <;> cases b1 <;> cases b2 <;> cases o1 <;> cases o2 <;> cases m1 <;> cases m2 <;> simp [e1, e3]
set_option maxHeartbeats 2000000 in
theorem trip_any (w : World) (x : Fl) (r : FlR) :
    Calls Try.prog 21 #[.agg #[.int .i64 x.id, .string x.key, .bool x.bk, .bool x.ot, .int .i64 x.du, .bool x.dm, .string x.m, .string x.h, .string x.p, .slice r.ha x.hs.length r.hc, .slice r.wa x.ws.length r.wc]] w fun e w' => e = .returned (.agg #[.string x.key, .string x.m, .string x.h, .string x.p, .slice r.ha x.hs.length r.hc, .int .i64 x.id, .bool x.bk, .bool x.ot, .int .i64 x.du, .bool x.dm, .slice r.wa x.ws.length r.wc]) ∧ Below w.heap.size w w' := by
  have HB : Hid (Below w.heap.size w ((w.alloc (.cells #[.int .i64 x.id, .string x.key, .bool x.bk, .bool x.ot, .int .i64 x.du, .bool x.dm, .string x.m, .string x.h, .string x.p, .slice r.ha x.hs.length r.hc, .slice r.wa x.ws.length r.wc] 40)).alloc (.cells #[.string x.key, .string x.m, .string x.h, .string x.p, .slice r.ha x.hs.length r.hc, .int .i64 x.id, .bool x.bk, .bool x.ot, .int .i64 x.du, .bool x.dm, .slice r.wa x.ws.length r.wc] 58))) := ((Below.refl _ _).alloc (Nat.le_refl _) _).alloc (by simp) _
  obtain ⟨id, key, bk, ot, du, dm, m, h, p, hs, ws⟩ := x
  obtain ⟨ha, hc, wa, wc⟩ := r
  simp only at HB ⊢
  generalize hs.length = hl at *
  generalize ws.length = wn at *
  go_enter Try.func21, Try.ntmps21
  go_wp2_with fail
  exact bodyPost_ret (v := .agg #[.string key, .string m, .string h, .string p, .slice ha hl hc, .int .i64 id, .bool bk, .bool ot, .int .i64 du, .bool dm, .slice wa wn wc]) (by simp [results, Try.results21, go_sem]) rfl ⟨rfl, HB.out⟩
set_option maxHeartbeats 2000000 in
theorem asks_any (w : World) (x y : Fl) (r s : FlR) (hl : x.hs.length ≤ 1048576) (h1 : HdsIn w r.ha x.hs) (h2 : HdsIn w s.ha y.hs) :
    Calls Try.prog 22 #[.agg #[.string x.key, .string x.m, .string x.h, .string x.p, .slice r.ha x.hs.length r.hc], .agg #[.string y.key, .string y.m, .string y.h, .string y.p, .slice s.ha y.hs.length s.hc]] w fun e w' => e = .returned (.bool ((x.key.toList == y.key.toList) && sameQ x.m x.h x.p x.hs y.m y.h y.p y.hs)) ∧ Below w.heap.size w w' := by
  have bV : Below w.heap.size w ((w.alloc (.cells #[.string x.key, .string x.m, .string x.h, .string x.p, .slice r.ha x.hs.length r.hc] 54)).alloc (.cells #[.string y.key, .string y.m, .string y.h, .string y.p, .slice s.ha y.hs.length s.hc] 54)) := ((Below.refl _ _).alloc (Nat.le_refl _) _).alloc (by simp) _
  have C := implSameQ_any _ x.m x.h x.p r.ha r.hc x.hs y.m y.h y.p s.ha s.hc y.hs hl (h1.keep bV) (h2.keep bV)
  have HB : Hid (Below w.heap.size w ((w.alloc (.cells #[.string x.key, .string x.m, .string x.h, .string x.p, .slice r.ha x.hs.length r.hc] 54)).alloc (.cells #[.string y.key, .string y.m, .string y.h, .string y.p, .slice s.ha y.hs.length s.hc] 54))) := bV
  clear bV h1 h2 hl
  generalize sameQ x.m x.h x.p x.hs y.m y.h y.p y.hs = q at *
  obtain ⟨id, key, bk, ot, du, dm, m, h, p, hs, ws⟩ := x
  obtain ⟨ha, hc, wa, wc⟩ := r
  obtain ⟨id', key', bk', ot', du', dm', m', h', p', hs', ws'⟩ := y
  obtain ⟨ha', hc', wa', wc'⟩ := s
  simp only at HB C ⊢
  generalize hs.length = n at *
  generalize hs'.length = n' at *
  cases c1 : (key.toList == key'.toList)
  · clear C
    go_enter Try.func22, Try.ntmps22
    go_wp2_with fail
    go_ret
    exact ⟨rfl, HB.out⟩
  go_enter Try.func22, Try.ntmps22
  go_wp2_with fail
  refine C.mono ?_
  rintro e w1 ⟨rfl, hb1⟩
  have HB1 : Hid (Below w.heap.size w w1) := HB.out.trans (hb1.mono HB.out.size)
  clear hb1 C HB
  go_wp2_with fail
  go_ret
  exact ⟨rfl, HB1.out⟩
end Go.Proofs.Ytgejegmilkmiiaa
