/-
  Bytes behind a byte: the code that a second draw is made of.
-/
import Derived.Test.YtmgidcigihpbeaaRowApp
namespace Go.Proofs.Ytmgidcigihpbeaa
open Go.ChangeShapes Go.WideShapes Go.ChangeAt Go.RowKit Go.Sort
def DAt (w : World) (b off : Nat) (l : List UInt8) : Prop := ∀ (i : Nat) c, l[i]? = some c → w.cell? ⟨b, off + i, none⟩ = some (.int .u8 (c.toNat : Int))
theorem DAt.keep {w w' : World} {b off : Nat} {l : List UInt8} (h : DAt w b off l) (hb : Below w.heap.size w w') : DAt w' b off l := by
  intro i c hc
  have := h i c hc
  rw [hb.cell (block_lt_of_cell this)]; exact this
def DIn (w : World) (a : Option Addr) (l : List UInt8) : Prop := l = [] ∨ ∃ b off, a = some ⟨b, off, none⟩ ∧ DAt w b off l
theorem DIn.keep {w w' : World} {a : Option Addr} {l : List UInt8} (h : DIn w a l) (hb : Below w.heap.size w w') : DIn w' a l := by
  rcases h with h | ⟨b, off, e, h⟩
  · exact .inl h
  · exact .inr ⟨b, off, e, h.keep hb⟩
theorem dByteI : (Try.prog.info? 5).map (fun i => (i.zero, i.size, i.bytes)) = some (some (.int .u8 0), 1, 1) := by kernel_rfl
def dBytes (l : List UInt8) : List Value := l.map fun c => Value.int .u8 (c.toNat : Int)
theorem dadd (b off j : Nat) : (⟨b, off, none⟩ : Addr).add j = ⟨b, off + j, none⟩ := by unfold Addr.add; split <;> simp_all
theorem dBytes_in {w : World} {a : Option Addr} {l : List UInt8} (h : DIn w a l) : l.length = 0 ∨ ∃ ad, a = some ad ∧ ∀ j u, (dBytes l)[j]? = some u → w.cell? (ad.add j) = some u := by
  rcases h with rfl | ⟨b, off, rfl, h⟩
  · exact .inl rfl
  · refine .inr ⟨_, rfl, fun j u hj => ?_⟩
    unfold dBytes at hj
    rw [List.getElem?_map] at hj
    obtain ⟨c, hc, rfl⟩ := Option.map_eq_some_iff.1 hj
    rw [dadd]
    exact h j c hc
theorem dOneB (l : List UInt8) : ∀ u ∈ dBytes l, u.oneCell' = true := fun u hu => by obtain ⟨c, _, rfl⟩ := List.mem_map.1 hu; rfl
end Go.Proofs.Ytmgidcigihpbeaa
