/-
  A text cut at commas that do not stand between quotes, plainly.
-/
import Derived.Test.YtibomkcbopkpkaaDoorOwnNil
namespace Go.Proofs.YtibomkcbopkpkaaDoor
/-- The pieces; cur: what stands already in the one that is under way. -/
def pcs (ins : Bool) (cur : List UInt8) : List UInt8 → List (List UInt8)
  | [] => [cur]
  | [c] => if ins = true ∧ (c.toNat : Int) = 92 then [cur ++ [c]] else if (c.toNat : Int) = 34 then [cur ++ [c]] else if (c.toNat : Int) = 44 ∧ ins = false then [cur, []] else [cur ++ [c]]
  | c :: d :: r => if ins = true ∧ (c.toNat : Int) = 92 then pcs ins (cur ++ [c, d]) r else if (c.toNat : Int) = 34 then pcs (!ins) (cur ++ [c]) (d :: r) else if (c.toNat : Int) = 44 ∧ ins = false then cur :: pcs ins [] (d :: r) else pcs ins (cur ++ [c]) (d :: r)
theorem pcs_cut {cur : List UInt8} {c : UInt8} (h : (c.toNat : Int) = 92) : pcs true cur [c] = [cur ++ [c]] := by simp only [pcs]; rw [if_pos ⟨trivial, h⟩]
theorem pcs_esc {cur r : List UInt8} {c d : UInt8} (h : (c.toNat : Int) = 92) : pcs true cur (c :: d :: r) = pcs true (cur ++ [c, d]) r := by simp only [pcs]; rw [if_pos ⟨trivial, h⟩]
theorem pcs_quote {ins : Bool} {cur r : List UInt8} {c : UInt8} (h : (c.toNat : Int) = 34) : pcs ins cur (c :: r) = pcs (!ins) (cur ++ [c]) r := by
  have n : ¬ (ins = true ∧ (c.toNat : Int) = 92) := by omega
  cases r with
  | nil => simp only [pcs]; rw [if_neg n, if_pos h]
  | cons d r => simp only [pcs]; rw [if_neg n, if_pos h]
theorem pcs_comma {cur r : List UInt8} {c : UInt8} (h : (c.toNat : Int) = 44) : pcs false cur (c :: r) = cur :: pcs false [] r := by
  have n : ¬ (false = true ∧ (c.toNat : Int) = 92) := by omega
  have n2 : ¬ (c.toNat : Int) = 34 := by omega
  cases r with
  | nil => simp only [pcs]; rw [if_neg n, if_neg n2, if_pos ⟨h, trivial⟩]
  | cons d r => simp only [pcs]; rw [if_neg n, if_neg n2, if_pos ⟨h, trivial⟩]
theorem pcs_take {ins : Bool} {cur r : List UInt8} {c : UInt8} (h1 : ¬ (ins = true ∧ (c.toNat : Int) = 92)) (h2 : ¬ (c.toNat : Int) = 34) (h3 : ¬ ((c.toNat : Int) = 44 ∧ ins = false)) : pcs ins cur (c :: r) = pcs ins (cur ++ [c]) r := by
  cases r with
  | nil => simp only [pcs]; rw [if_neg h1, if_neg h2, if_neg h3]
  | cons d r => simp only [pcs]; rw [if_neg h1, if_neg h2, if_neg h3]
/-- How many bytes stand in the piece that is under way. -/
def peS (ins : Bool) : List UInt8 → Nat
  | [] => 0
  | [c] => if (c.toNat : Int) = 44 ∧ ins = false then 0 else 1
  | c :: d :: r => if ins = true ∧ (c.toNat : Int) = 92 then 2 + peS ins r else if (c.toNat : Int) = 34 then 1 + peS (!ins) (d :: r) else if (c.toNat : Int) = 44 ∧ ins = false then 0 else 1 + peS ins (d :: r)
theorem peS_cut {c : UInt8} : peS true [c] = 1 := by simp only [peS]; rw [if_neg (by simp)]
theorem peS_esc {r : List UInt8} {c d : UInt8} (h : (c.toNat : Int) = 92) : peS true (c :: d :: r) = 2 + peS true r := by simp only [peS]; rw [if_pos ⟨trivial, h⟩]
theorem peS_quote {ins : Bool} {r : List UInt8} {c : UInt8} (h : (c.toNat : Int) = 34) : peS ins (c :: r) = 1 + peS (!ins) r := by
  have n : ¬ (ins = true ∧ (c.toNat : Int) = 92) := by omega
  cases r with
  | nil => simp only [peS]; rw [if_neg (by omega)]
  | cons d r => simp only [peS]; rw [if_neg n, if_pos h]
theorem peS_comma {r : List UInt8} {c : UInt8} (h : (c.toNat : Int) = 44) : peS false (c :: r) = 0 := by
  have n : ¬ (false = true ∧ (c.toNat : Int) = 92) := by omega
  have n2 : ¬ (c.toNat : Int) = 34 := by omega
  cases r with
  | nil => simp only [peS]; rw [if_pos ⟨h, trivial⟩]
  | cons d r => simp only [peS]; rw [if_neg n, if_neg n2, if_pos ⟨h, trivial⟩]
theorem peS_take {ins : Bool} {r : List UInt8} {c : UInt8} (h1 : ¬ (ins = true ∧ (c.toNat : Int) = 92)) (h2 : ¬ (c.toNat : Int) = 34) (h3 : ¬ ((c.toNat : Int) = 44 ∧ ins = false)) : peS ins (c :: r) = 1 + peS ins r := by
  cases r with
  | nil => simp only [peS]; rw [if_neg h3]
  | cons d r => simp only [peS]; rw [if_neg h1, if_neg h2, if_neg h3]
theorem peS_le (n : Nat) : ∀ (l : List UInt8) (ins : Bool), l.length ≤ n → peS ins l ≤ l.length := by
  induction n with
  | zero => intro l ins h; have : l = [] := List.eq_nil_of_length_eq_zero (by omega); subst this; simp [peS]
  | succ n ih =>
    intro l ins h
    match l with
    | [] => simp [peS]
    | [c] => simp only [peS]; split <;> simp
    | c :: d :: r =>
      have h1 := ih r ins (by simp only [List.length_cons] at h; omega)
      have h2 := ih (d :: r) ins (by simp only [List.length_cons] at h ⊢; omega)
      have h3 := ih (d :: r) (!ins) (by simp only [List.length_cons] at h ⊢; omega)
      simp only [peS, List.length_cons] at h2 h3 ⊢
      repeat' split
      all_goals omega
/-- The first piece, and the others. -/
theorem pcs_first (n : Nat) : ∀ (l : List UInt8) (ins : Bool) (cur : List UInt8), l.length ≤ n →
    pcs ins cur l = if peS ins l < l.length then (cur ++ l.take (peS ins l)) :: pcs false [] (l.drop (peS ins l + 1)) else [cur ++ l] := by
  induction n with
  | zero => intro l ins cur h; have : l = [] := List.eq_nil_of_length_eq_zero (by omega); subst this; simp [peS, pcs]
  | succ n ih =>
    intro l ins cur h
    match l with
    | [] => simp [peS, pcs]
    | c :: r =>
      have hr : r.length ≤ n := by simp only [List.length_cons] at h; omega
      by_cases c0 : ins = true ∧ (c.toNat : Int) = 92
      · obtain ⟨rfl, c0⟩ := c0
        match r with
        | [] => rw [pcs_cut c0, peS_cut]; simp
        | d :: r =>
          rw [pcs_esc c0, peS_esc c0, ih r true _ (by simp only [List.length_cons] at hr; omega)]
          by_cases q : peS true r < r.length
          · rw [if_pos q, if_pos (by simp only [List.length_cons]; omega)]
            rw [show 2 + peS true r = peS true r + 1 + 1 from by omega]
            simp
          · rw [if_neg q, if_neg (by simp only [List.length_cons]; omega)]
            simp
      · by_cases c1 : (c.toNat : Int) = 34
        · rw [pcs_quote c1, peS_quote c1, ih r _ _ hr]
          by_cases q : peS (!ins) r < r.length
          · rw [if_pos q, if_pos (by simp only [List.length_cons]; omega)]
            rw [show 1 + peS (!ins) r = peS (!ins) r + 1 from by omega]
            simp
          · rw [if_neg q, if_neg (by simp only [List.length_cons]; omega)]
            simp
        · by_cases c2 : (c.toNat : Int) = 44 ∧ ins = false
          · obtain ⟨c2, rfl⟩ := c2
            rw [pcs_comma c2, peS_comma c2, if_pos (by simp)]
            simp
          · rw [pcs_take c0 c1 c2, peS_take c0 c1 c2, ih r _ _ hr]
            by_cases q : peS ins r < r.length
            · rw [if_pos q, if_pos (by simp only [List.length_cons]; omega)]
              rw [show 1 + peS ins r = peS ins r + 1 from by omega]
              simp
            · rw [if_neg q, if_neg (by simp only [List.length_cons]; omega)]
              simp
/-- From behind a quote to the end of the piece. -/
theorem peS_in (n : Nat) : ∀ (l : List UInt8), l.length ≤ n → peS true l = if qLen l < l.length then qLen l + 1 + peS false (l.drop (qLen l + 1)) else l.length := by
  induction n with
  | zero => intro l h; have : l = [] := List.eq_nil_of_length_eq_zero (by omega); subst this; simp [peS, qLen]
  | succ n ih =>
    intro l h
    match l with
    | [] => simp [peS, qLen]
    | c :: r =>
      have hr : r.length ≤ n := by simp only [List.length_cons] at h; omega
      by_cases c1 : (c.toNat : Int) = 34
      · rw [peS_quote c1, qLen_end _ _ c1, if_pos (by simp)]
        simp
      · by_cases c0 : (c.toNat : Int) = 92
        · match r with
          | [] => rw [peS_cut, qLen_cut _ c0]; simp
          | d :: r =>
            rw [peS_esc c0, qLen_esc _ _ _ c0, ih r (by simp only [List.length_cons] at hr; omega)]
            by_cases q : qLen r < r.length
            · rw [if_pos q, if_pos (by simp only [List.length_cons]; omega)]
              rw [show 2 + qLen r + 1 = qLen r + 1 + 1 + 1 from by omega]
              simp only [List.drop_succ_cons]
              omega
            · rw [if_neg q, if_neg (by simp only [List.length_cons]; omega)]
              simp only [List.length_cons]; omega
        · rw [peS_take (fun x => c0 x.2) c1 (by simp), qLen_take _ _ c1 c0, ih r hr]
          by_cases q : qLen r < r.length
          · rw [if_pos q, if_pos (by simp only [List.length_cons]; omega)]
            rw [show 1 + qLen r + 1 = qLen r + 1 + 1 from by omega]
            simp only [List.drop_succ_cons]
            omega
          · rw [if_neg q, if_neg (by simp only [List.length_cons]; omega)]
            simp only [List.length_cons]; omega
end Go.Proofs.YtibomkcbopkpkaaDoor
