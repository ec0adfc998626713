/-
  A row of bytes in memory, and small letters: no function of the program in sight.
-/
import Derived.Test.YtjdkkfbijneedaaBase
namespace Go.Proofs.Ytjdkkfbijneedaa
/-- The block B holds the bytes l from its head on, none of them frozen. -/
structure BRow (w : World) (B : Nat) (l : List UInt8) : Prop where
  cell : ∀ j (hj : j < l.length), w.cell? ⟨B, j, none⟩ = some (.int .u8 (l[j].toNat : Int))
  free : ∀ j, j < l.length → w.frozen? ⟨B, j, none⟩ = false
theorem BRow.set {w : World} {B : Nat} {l : List UInt8} (h : BRow w B l) (k : Nat) (x : UInt8) : BRow (w.setCell ⟨B, k, none⟩ (.int .u8 (x.toNat : Int))) B (l.set k x) := by
  constructor
  · intro j hj
    simp only [List.length_set] at hj
    by_cases e : k = j
    · subst e
      rw [World.cell?_setCell_same _ _ _ (h.cell k hj)]
      simp
    · rw [World.cell?_setCell_other _ _ _ _ (by intro h2; exact e (congrArg Addr.off h2)), h.cell j hj, List.getElem_set_ne e]
  · intro j hj
    simp only [List.length_set] at hj
    rw [World.frozen?_setCell]
    exact h.free j hj
/-- What a conversion from a text lays. -/
theorem BRow.made (w : World) (s : ByteArray) (cap : Nat) (C : Array Value) (hC : C = bytesRow s cap) : BRow (w.alloc (.cells C 5 (C.size, C.size + 1))) w.heap.size s.data.toList := by
  subst hC
  have hsz : s.data.size ≤ (bytesRow s cap).size := by simp [bytesRow]
  constructor
  · intro j hj
    have hj' : j < s.data.size := by simpa using hj
    rw [World.cell?_alloc_mark, bytesRow_at s cap j hj']
    simp
  · intro j hj
    have hj' : j < s.data.size := by simpa using hj
    rw [World.frozen?_alloc_mark]
    simp
    omega
theorem BRow.back {P : Program} {w : World} {B : Nat} {l : List UInt8} (h : BRow w B l) (src dst e : TypeId) (n cap : Nat) (hn : n = l.length) (hs : P.underlying src = some (.slice e)) (he : P.underlying e = some (.int .u8)) (hd : P.underlying dst = some .string) :
    (convert src dst (.slice (some ⟨B, 0, none⟩) n cap)).run P w = .ok (.string ⟨l.toArray⟩) w := by
  subst hn
  refine run_convert_bytes_back w src dst e ⟨B, 0, none⟩ cap l hs he hd ?_
  intro j hj
  have := h.cell j hj
  by_cases e : j = 0
  · subst e; simpa [Addr.add] using this
  · simpa [Addr.add, e] using this
def lowU (c : UInt8) : UInt8 := if 65 ≤ (c.toNat : Int) ∧ (c.toNat : Int) ≤ 90 then UInt8.ofNat (c.toNat + 32) else c
theorem lowU_yes (c : UInt8) (h1 : 65 ≤ (c.toNat : Int)) (h2 : (c.toNat : Int) ≤ 90) : ((lowU c).toNat : Int) = (c.toNat : Int) + 32 := by
  unfold lowU
  rw [if_pos ⟨h1, h2⟩]
  simp
  omega
theorem lowU_no (c : UInt8) (h : ¬ (65 ≤ (c.toNat : Int) ∧ (c.toNat : Int) ≤ 90)) : lowU c = c := by
  unfold lowU
  rw [if_neg h]
/-- The bytes behind k rounds. -/
def lowK (l : List UInt8) (k : Nat) : List UInt8 := (l.take k).map lowU ++ l.drop k
theorem lowK_zero (l : List UInt8) : lowK l 0 = l := by simp [lowK]
theorem lowK_all (l : List UInt8) (k : Nat) (h : l.length ≤ k) : lowK l k = l.map lowU := by
  simp [lowK, List.take_of_length_le h, List.drop_of_length_le h]
theorem lowK_length (l : List UInt8) (k : Nat) : (lowK l k).length = l.length := by simp [lowK]; omega
theorem lowK_at? (l : List UInt8) (k : Nat) (h : k < l.length) : (lowK l k)[k]? = some l[k] := by
  unfold lowK
  rw [List.getElem?_append_right (by simp; omega)]
  simp [Nat.min_eq_left (Nat.le_of_lt h)]
theorem lowK_at (l : List UInt8) (k : Nat) (h : k < l.length) (h' : k < (lowK l k).length) : (lowK l k)[k] = l[k] := by
  have := lowK_at? l k h
  rw [List.getElem?_eq_getElem h'] at this
  exact Option.some.inj this
theorem lowK_succ (l : List UInt8) (k : Nat) (h : k < l.length) : lowK l (k + 1) = (lowK l k).set k (lowU l[k]) := by
  have hm : min k l.length = k := Nat.min_eq_left (Nat.le_of_lt h)
  unfold lowK
  rw [List.take_succ_eq_append_getElem h, List.map_append, List.drop_eq_getElem_cons h]
  rw [List.set_append_right _ _ (by simp [hm])]
  simp only [List.length_map, List.length_take, hm, Nat.sub_self, List.set_cons_zero, List.map_cons, List.map_nil, List.append_assoc, List.cons_append, List.nil_append]
theorem lowK_keep (l : List UInt8) (k : Nat) (h : k < l.length) (hn : ¬ (65 ≤ (l[k].toNat : Int) ∧ (l[k].toNat : Int) ≤ 90)) : lowK l (k + 1) = lowK l k := by
  have h2 : k < (lowK l k).length := by rw [lowK_length]; exact h
  rw [lowK_succ l k h, lowU_no _ hn, ← lowK_at l k h h2, List.set_getElem_self]
end Go.Proofs.Ytjdkkfbijneedaa
