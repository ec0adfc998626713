/-
  Lists of entries, handed over by the laws: room, copies, comparisons.
-/
import Derived.Test.YtapnjbdlljnnhaaEntTo
import Derived.Lib.QuietBelow
import Derived.Deep.RegionWith
import Derived.BigQuiet
namespace Go.Proofs.Ytapnjbdlljnnhaa
open Go.ChangeShapes Go.WideShapes Go.ChangeAt Go.RowKit Go.Sort
theorem EntsAt.cells {w : World} {b off : Nat} {l : List (Ent × EntR)} (h : EntsAt w b off l) {i : Nat} {q : Ent × EntR} (hq : l[i]? = some q) : w.cell? ⟨b, off + i * 13, none⟩ = some (.string q.1.key) ∧ w.cell? ⟨b, off + i * 13 + 1, none⟩ = some (.int .i64 q.1.st) ∧ w.cell? ⟨b, off + i * 13 + 2, none⟩ = some (.slice q.2.ha q.1.hs.length q.2.hc) ∧ w.cell? ⟨b, off + i * 13 + 3, none⟩ = some (.slice q.2.ba q.1.bl.length q.2.bc) ∧ w.cell? ⟨b, off + i * 13 + 4, none⟩ = some (.int .i64 q.1.t) ∧ w.cell? ⟨b, off + i * 13 + 5, none⟩ = some (.int .i64 q.1.g) ∧ w.cell? ⟨b, off + i * 13 + 6, none⟩ = some (.int .i64 q.1.l) ∧ w.cell? ⟨b, off + i * 13 + 7, none⟩ = some (.int .i64 q.1.s) ∧ w.cell? ⟨b, off + i * 13 + 8, none⟩ = some (.int .i64 q.1.e) ∧ w.cell? ⟨b, off + i * 13 + 9, none⟩ = some (.bool q.1.b1) ∧ w.cell? ⟨b, off + i * 13 + 10, none⟩ = some (.bool q.1.b2) ∧ w.cell? ⟨b, off + i * 13 + 11, none⟩ = some (.slice q.2.ta q.1.ts.length q.2.tc) ∧ w.cell? ⟨b, off + i * 13 + 12, none⟩ = some (.int .i64 q.1.pins) := by
  have c := (h i q hq).1
  exact ⟨c 0 (by omega), c 1 (by omega), c 2 (by omega), c 3 (by omega), c 4 (by omega), c 5 (by omega), c 6 (by omega), c 7 (by omega), c 8 (by omega), c 9 (by omega), c 10 (by omega), c 11 (by omega), c 12 (by omega)⟩
theorem EntsAt.in {w : World} {b off : Nat} {l : List (Ent × EntR)} (h : EntsAt w b off l) {i : Nat} {q : Ent × EntR} (hq : l[i]? = some q) : EntIn w q.1 q.2 := (h i q hq).2
theorem szEntry_q (w : World) (q : Ent × EntR) (left : Int) (h0 : 0 ≤ left) (h1 : left ≤ 1048576) (hs : EntSm q.1) (hi : EntIn w q.1 q.2) :
    Calls Try.prog 15 #[.agg #[.string q.1.key, .int .i64 q.1.st, .slice q.2.ha q.1.hs.length q.2.hc, .slice q.2.ba q.1.bl.length q.2.bc, .int .i64 q.1.t, .int .i64 q.1.g, .int .i64 q.1.l, .int .i64 q.1.s, .int .i64 q.1.e, .bool q.1.b1, .bool q.1.b2, .slice q.2.ta q.1.ts.length q.2.tc, .int .i64 q.1.pins], .int .i64 left] w fun r w' => r = .returned (.int .i64 (szE left q.1.key q.1.hs q.1.bl q.1.ts)) ∧ Below w.heap.size w w' :=
  szEntry_any w _ _ _ _ _ _ _ _ _ _ _ _ _ _ _ _ _ _ _ left h0 h1 hs.key hs.hl hs.hs hs.bl hs.tl hs.ts hi.h hi.k
def szEs (c : Int) : List (Ent × EntR) → Int
  | [] => c
  | q :: l => if szE c q.1.key q.1.hs q.1.bl q.1.ts < 0 then -1 else szEs (szE c q.1.key q.1.hs q.1.bl q.1.ts) l
def szEL (left : Int) (l : List (Ent × EntR)) : Int := if left - (l.length : Int) < 0 then -1 else szEs (left - (l.length : Int)) l
set_option maxHeartbeats 4000000 in
theorem szEntryS_any (w : World) (a : Option Addr) (cap : Nat) (l : List (Ent × EntR)) (hl : l.length ≤ maxLen) (hi : EntsIn w a l) (hz : ∀ q ∈ l, EntSm q.1) (left : Int) (h0 : 0 ≤ left) (h1 : left ≤ 1048576) :
    Calls Try.prog 9 #[.slice a l.length cap, .int .i64 left] w fun e w' => e = .returned (.int .i64 (szEL left l)) ∧ Below w.heap.size w w' := by
  unfold maxLen at hl
  have HI : Hid (EntsIn w a l) := hi
  have HZ : Hid (∀ q ∈ l, EntSm q.1) := hz
  clear hi hz
  generalize hn : l.length = n at *
  have HN : Hid (l.length = n) := hn
  by_cases c0 : left - (n : Int) < 0
  · have HE : Hid (szEL left l = -1) := by show _ = _; unfold szEL; rw [hn, if_pos c0]
    clear hn
    go_enter Try.func9, Try.ntmps9
    go_wp2
    go_ret
    exact ⟨ret_int HE.out.symm, Below.refl _ _⟩
  have HE : Hid (szEL left l = szEs (left - (n : Int)) l) := by show _ = _; unfold szEL; rw [hn, if_neg c0]
  have c0' : 0 ≤ left - (n : Int) := by omega
  clear hn
  go_enter Try.func9, Try.ntmps9
  go_wp2_with fail
  go_loopw [1, 5] (fun x i wr => ∃ (k : Nat) (c : Int), k ≤ n ∧ i = .int .i64 k ∧ x = .int .i64 c ∧ 0 ≤ c ∧ c ≤ 1048576 ∧ szEL left l = szEs c (l.drop k) ∧ Below w.heap.size w wr) (fun _ i _ => n - (intOf i).toNat)
  case atStart => exact ⟨0, left - (n : Int), Nat.zero_le _, rfl, rfl, c0', by omega, HE.out, Below.refl _ _⟩
  case round =>
    obtain ⟨k, c, hk, rfl, rfl, c2, c3, hs, hb⟩ := hrel
    have HS : Hid (szEL left l = szEs c (l.drop k)) := hs
    clear hs HE
    by_cases hlt : k < n
    · obtain ⟨q, hr⟩ : ∃ r, l[k]? = some r := ⟨l[k]'(by have := HN.out; omega), List.getElem?_eq_getElem _⟩
      rcases HI.out with h | ⟨b, off, rfl, hat⟩
      · subst h; simp at hr
      have PC := (hat.keep hb).cells hr
      have C : Hid (Calls Try.prog 15 #[.agg #[.string q.1.key, .int .i64 q.1.st, .slice q.2.ha q.1.hs.length q.2.hc, .slice q.2.ba q.1.bl.length q.2.bc, .int .i64 q.1.t, .int .i64 q.1.g, .int .i64 q.1.l, .int .i64 q.1.s, .int .i64 q.1.e, .bool q.1.b1, .bool q.1.b2, .slice q.2.ta q.1.ts.length q.2.tc, .int .i64 q.1.pins], .int .i64 c] wr fun r w' => r = .returned (.int .i64 (szE c q.1.key q.1.hs q.1.bl q.1.ts)) ∧ Below wr.heap.size wr w') := szEntry_q wr q c c2 c3 (HZ.out q (List.mem_of_getElem? hr)) ((hat.keep hb).in hr)
      have HS2 : Hid (szEL left l = if szE c q.1.key q.1.hs q.1.bl q.1.ts < 0 then -1 else szEs (szE c q.1.key q.1.hs q.1.bl q.1.ts) (l.drop (k + 1))) := by
        show _ = _
        obtain ⟨hk2, hr2⟩ := List.getElem?_eq_some_iff.1 hr
        rw [HS.out, List.drop_eq_getElem_cons hk2, hr2, szEs]
      have HLE : Hid (¬ szE c q.1.key q.1.hs q.1.bl q.1.ts < 0 → szE c q.1.key q.1.hs q.1.bl q.1.ts ≤ c) := fun h => (szE_room c3 h).2.2.2.2
      have g : (k : Int) < n := by omega
      have HB : Hid (Below w.heap.size w wr) := hb
      clear HS hr hat HI HZ hb
      generalize szE c q.1.key q.1.hs q.1.bl q.1.ts = z at *
      have p0 := PC.1
      have p1 := PC.2.1
      have p2 := PC.2.2.1
      have p3 := PC.2.2.2.1
      have p4 := PC.2.2.2.2.1
      have p5 := PC.2.2.2.2.2.1
      have p6 := PC.2.2.2.2.2.2.1
      have p7 := PC.2.2.2.2.2.2.2.1
      have p8 := PC.2.2.2.2.2.2.2.2.1
      have p9 := PC.2.2.2.2.2.2.2.2.2.1
      have p10 := PC.2.2.2.2.2.2.2.2.2.2.1
      have p11 := PC.2.2.2.2.2.2.2.2.2.2.2.1
      have p12 := PC.2.2.2.2.2.2.2.2.2.2.2.2
      clear PC
      obtain ⟨⟨key, st, hs, bl, t, gg, li, s, e, b1, b2, ts, pins⟩, ⟨ha, hc, ba, bc, ta, tc⟩⟩ := q
      simp only at p0 p1 p2 p3 p4 p5 p6 p7 p8 p9 p10 p11 p12 C
      go_wp2_with fail
      refine C.out.mono ?_
      rintro r w2 ⟨rfl, hb2⟩
      have HB2 : Hid (Below w.heap.size w w2) := HB.out.trans (hb2.mono HB.out.size)
      clear hb2 p0 p1 p2 p3 p4 p5 p6 p7 p8 p9 p10 p11 p12 C HB
      by_cases hd : z < 0
      · have HF : Hid (szEL left l = -1) := by show _ = _; rw [HS2.out, if_pos hd]
        clear HS2
        go_wp2_with fail
        go_ret
        exact ⟨ret_int HF.out.symm, HB2.out⟩
      · have HF : Hid (szEL left l = szEs z (l.drop (k + 1))) := by show _ = _; rw [HS2.out, if_neg hd]
        have hle := HLE.out (by omega)
        clear HS2 HLE
        go_wp2_with fail
        go_roundw
        case rel => exact ⟨k + 1, z, by omega, by go_num, rfl, by omega, by omega, HF.out, HB2.out⟩
        case measure => simp [intOf]; omega
    · have HF : Hid (szEL left l = c) := by
        show _ = _
        rw [HS.out, List.drop_of_length_le (by have := HN.out; omega), szEs]
      clear HS
      go_wp2_with fail
      go_ret
      exact ⟨ret_int HF.out.symm, hb⟩
end Go.Proofs.Ytapnjbdlljnnhaa
