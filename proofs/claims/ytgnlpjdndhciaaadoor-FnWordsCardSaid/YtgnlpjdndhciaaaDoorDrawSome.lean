/-
  Bytes drawn, one by one, into a new slice.
-/
import Derived.Test.YtgnlpjdndhciaaaDoorDrawText
import Derived.Test.YtgnlpjdndhciaaaDoorRow
namespace Go.Proofs.YtgnlpjdndhciaaaDoor
open Go.ChangeShapes Go.WideShapes Go.ChangeAt Go.RowKit
theorem infoByte : (Tryd.prog.info? 5).map (fun i => (i.zero, i.size, i.bytes)) = some (some (.int .u8 0), 1, 1) := by kernel_rfl
def bytesV (l : List UInt8) : List Value := l.map fun c => Value.int .u8 (c.toNat : Int)
theorem own_ge {w : World} {base : Nat} {e : TypeId} {size : Nat} {v : Value} {n : Nat} {xs : List Value} (h : w.ownsRow base e size v n xs) (q : Nat) (hq : v.ownBlock = some q) : base ≤ q := by
  obtain ⟨_, h | ⟨g, c, cur, rfl, hg, _⟩⟩ := h
  · rw [h.1] at hq; cases hq
  · simp only [Value.ownBlock, Option.some.injEq] at hq; omega
set_option maxHeartbeats 1000000 in
theorem l1Some_any (w : World) (B : Nat) (a : Option Addr) (len cap k : Nat) (hs : Src w B a len cap k) (n : Nat) (hn : n ≤ 1000)
    (hk : k ≤ 100000) (hl2 : len ≤ 1048576) :
    Calls Tryd.prog 27 #[.pointer (some ⟨B, 0, none⟩), .int .i64 (n : Int)] w fun e w' => (∃ v l, l.length = n ∧ w'.ownsRow w.heap.size 5 1 v n (bytesV l) ∧ v ≠ .slice none 0 0 ∧ e = .returned v) ∧ Src w' B a len cap (k + n) ∧ Below B w w' := by
  have HS : Hid (Src w B a len cap k) := hs
  have hlt := hs.lt
  obtain ⟨i0, hi, hz0, hz1, hz2⟩ := info_parts infoByte
  clear hs
  go_enter Tryd.func27, Tryd.ntmps27
  go_wp2_with fail
  go_loopw [1, 5] (fun x v wr => ∃ (j : Nat) (l : List UInt8), j + l.length = n ∧ x = .int .i64 (j : Int) ∧ v ≠ .slice none 0 0 ∧ wr.ownsRow w.heap.size 5 1 v l.length (bytesV l) ∧ Src wr B a len cap (k + l.length) ∧ Below B w wr ∧ w.heap.size ≤ wr.heap.size) (fun x _ _ => (intOf x).toNat)
  case atStart =>
    refine ⟨n, [], rfl, rfl, by simp, ⟨by simp [bytesV], .inr ⟨w.heap.size, 0, #[], rfl, Nat.le_refl _, heap_alloc_new _ _, Nat.le_refl _, by simp, by simp, by simp [bytesV]⟩⟩, HS.out.alloc _, (Below.refl _ _).alloc (by omega) _, by simp⟩
  case round =>
    obtain ⟨j, l, hjl, rfl, hv, hown, hsr, hb, hz⟩ := hrel
    have HR : Hid (Src wr B a len cap (k + l.length)) := hsr
    have HO : Hid (wr.ownsRow w.heap.size 5 1 u5 l.length (bytesV l)) := hown
    have HV : Hid (u5 ≠ Value.slice none 0 0) := hv
    clear hsr hown hv HS
    by_cases hj : 0 < j
    · have g : 0 < (j : Int) := by omega
      go_wp2_with fail
      refine (l1Next_any _ B a len cap (k + l.length) 256 HR.out (by omega) (by omega) (by omega) hl2).mono ?_
      rintro e w2 ⟨⟨x, x0, x1, rfl⟩, hw2⟩
      have HS2 : Hid (Src w2 B a len cap (k + l.length + 1) ∧ Below B wr w2) := HR.out.stepped hw2
      have HO2 : Hid (w2.ownsRow w.heap.size 5 1 u5 l.length (bytesV l)) := by
        obtain ⟨m, rfl⟩ := hw2
        have := ownsRow_setCell_below HO.out (a := ⟨B, 1, none⟩) hlt (.int .i64 (((k + l.length : Nat) : Int) + 1))
        exact this
      have hz2' : w.heap.size ≤ w2.heap.size := Nat.le_trans hz HS2.out.2.size
      clear hw2 HR HO
      go_wp2_with (at_builtin; refine wpList_append_own _ rfl _ _ 22 rfl w.heap.size 5 i0 (.int .u8 0) 1 1 Tryd.underlying22 hi hz0 hz1 hz2 rfl (by decide) _ _ _ rfl (HO2.out.alloc _) ⟨w2.heap.size, 0, none⟩ 1 1 [.int .u8 x] rfl rfl ?c1 ?c2 ?c3 ?c4 ?c5 ?_)
      case c1 =>
        intro j u hj
        match j, hj with
        | 0, hj => simp at hj; subst hj; simp [Addr.add]
      case c2 => intro u hu; simp at hu; subst hu; rfl
      case c3 => unfold maxLen; omega
      case c4 => omega
      case c5 => simp; omega
      · intro v' w3 hown3 hgrow hne
        obtain ⟨c, hc⟩ : ∃ c : UInt8, (c.toNat : Int) = x := ⟨UInt8.ofNat x.toNat, by rw [UInt8.toNat_ofNat_of_lt' (by show x.toNat < 256; omega)]; omega⟩
        have hrow : ∀ q, u5.ownBlock = some q → w.heap.size ≤ q := fun q hq => own_ge HO2.out q hq
        have hb3 : Below (B + 1) w2 w3 := ((Below.refl (B + 1) w2).alloc (by omega) _).grown hgrow (by simp; omega) (fun q hq => by have := hrow q hq; omega)
        have R : Hid (∃ (j' : Nat) (l' : List UInt8), j' + l'.length = n ∧ Value.int .i64 ((j : Int) - 1) = .int .i64 (j' : Int) ∧ v' ≠ .slice none 0 0 ∧ w3.ownsRow w.heap.size 5 1 v' l'.length (bytesV l') ∧ Src w3 B a len cap (k + l'.length) ∧ Below B w w3 ∧ w.heap.size ≤ w3.heap.size) := by
          refine ⟨j - 1, l ++ [c], by simp; omega, by rw [show ((j - 1 : Nat) : Int) = (j : Int) - 1 from by omega], hne, ?_, ?_, hb.trans (HS2.out.2.trans (hb3.mono (Nat.le_succ _))), Nat.le_trans hz2' hb3.size⟩
          · have e : bytesV (l ++ [c]) = bytesV l ++ [Value.int .u8 x] := by simp [bytesV, hc]
            rw [e, List.length_append]
            exact hown3
          · have e : k + (l ++ [c]).length = k + l.length + 1 := by simp; omega
            rw [e]
            exact HS2.out.1.below hb3
        clear hown3 hgrow hne hrow hb3 HO2 HS2 hc
        go_wp2_with fail
        go_roundw
        case rel => exact R.out
        case measure => simp [intOf]; omega
    · have hj0 : j = 0 := by omega
      subst hj0
      have R : Hid (∃ v l, l.length = n ∧ wr.ownsRow w.heap.size 5 1 v n (bytesV l) ∧ v ≠ .slice none 0 0 ∧ Ending.returned u5 = .returned v) := ⟨u5, l, by omega, by rw [show n = l.length from by omega]; exact HO.out, HV.out, rfl⟩
      have S : Hid (Src wr B a len cap (k + n)) := by rw [show n = l.length from by omega]; exact HR.out
      go_wp2_with fail
      go_ret
      exact ⟨R.out, S.out, hb⟩
end Go.Proofs.YtgnlpjdndhciaaaDoor
