/-
  Texts of one claim, one behind the other.
-/
import Derived.Test.YtlbagfaiiileoaaGreatDoorMgE
/-
  NewShield, by the model and by the program.
-/
namespace Go.Proofs.YtlbagfaiiileoaaGreatDoor
open Go.ChangeShapes Go.WideShapes Go.ChangeAt Go.RowKit Go.Sort
set_option linter.unusedSimpArgs false
def shI (c x : Int) : Int := if c = 0 then x else 0
def shL {α : Type} (c : Int) (l : List α) : List α := if c = 0 then l else []
theorem shI_z (x : Int) : shI 0 x = x := rfl
theorem shL_z {α : Type} (l : List α) : shL 0 l = l := rfl
theorem shI_n {c : Int} (h : ¬ c = 0) (x : Int) : shI c x = 0 := if_neg h
theorem shL_n {c : Int} {α : Type} (h : ¬ c = 0) (l : List α) : shL c l = [] := if_neg h
theorem cfgC_sto {cb cg co cn ce cf ct cc : Int} {ns : List ByteArray} {ls lc lt r1 r2 r3 r4 r5 : Int} (h : cfgC cb cg co cn ce cf ct cc ns ls lc lt r1 r2 r3 r4 r5 = 0) : storeC cb cg [] [] = 0 := by
  by_cases k : storeC cb cg [] [] = 0
  · exact k
  · unfold cfgC at h
    rw [if_pos k] at h
    exact absurd h k
theorem f_field_sh1 (c b g : Int) (u v : Value) (w : World) : (Instr.field 110 (.agg #[.int .i64 c, .int .i64 b, .int .i64 g, u, v]) 1).run Tryz.prog w = .ok (.agg #[.int .i64 b, .int .i64 g, u, v]) w := by kernel_rfl
theorem results_box {P : Program} {fn : Func} {s : Nat} {t : TypeId} {fs : _} {b : Nat} {vs : List Value} {X : World} {tmps : Array Value} (hf : fn.results = #[.cell s t]) (ht : P.underlying t = some (.struct fs)) (hz : (P.info? t).map (·.size) = some vs.length)
    (h1 : tmps.getD s undef = .pointer (some ⟨b, 0, none⟩)) (k1 : ∀ i v, vs[i]? = some v → X.cell? ⟨b, i, none⟩ = some v) : (results fn tmps).run P X = .ok (.agg vs.toArray) X := by
  have hL := loads_of (P := P) k1 rfl
  obtain ⟨inf, hi, hsz⟩ := Option.map_eq_some_iff.1 hz
  have h2 := h1
  rw [Array.getD_eq_getD_getElem?] at h2
  simp [results, hf, loadVar, isAgg, sizeOf, typeInfo, underlying, h1, h2, ht, hi, hsz, hL, go_sem]
theorem shNew_put {next : Act → World → Prop} {s d : Nat} {ty : TypeId} {pos : String} {af : Array Edge} {Q : Exit → Act → World → Prop} {a : Act} {X : World} {b : Nat} {zs vs : List Value} (hv : vs.length = 26) (hz : zs.length = 26) (one : vs.all (·.oneCell') = true)
    (h1 : a.eval (.tmp s) = .pointer (some ⟨b, 0, none⟩)) (h2 : a.eval (.tmp d) = .agg vs.toArray)
    (k2 : ∀ i v, zs[i]? = some v → X.cell? ⟨b, i, none⟩ = some v) (f2 : ∀ o, X.frozen? ⟨b, o, none⟩ = false)
    (K : next (a.put none undef) (putAll X b 0 vs)) :
    Oper.wp Tryz.prog { dst := none, op := .store 54 (.tmp s) (.tmp d), type := ty, pos := pos, after := af, guard := none } a X next Q := by
  have hS := run_storeCells_cells (P := Tryz.prog) b 0 vs 0 X (fun j hj => by
      obtain ⟨z, hzz⟩ : ∃ z, zs[j]? = some z := ⟨zs[j]'(by omega), List.getElem?_eq_getElem _⟩
      have := k2 j z hzz
      simp only [Nat.zero_add]
      rw [this]; rfl) (fun j _ => f2 _) (fun v hv => List.all_eq_true.1 one v hv)
  rw [Nat.add_zero, putAll_eq] at hS
  obtain ⟨inf, hi, hsz⟩ := Option.map_eq_some_iff.1 shR_size
  have e2 : ∀ ρ : Operand → Value, ρ (.tmp s) = .pointer (some ⟨b, 0, none⟩) → ρ (.tmp d) = .agg vs.toArray → (execOp ρ { dst := none, op := .store 54 (.tmp s) (.tmp d), type := ty, pos := pos, after := af, guard := none }).run Tryz.prog X = .ok .skip (putAll X b 0 vs) := fun ρ h h' => by
    simp [execOp, Instr.storeAt, storeVar, sizeOf, typeInfo, h, h', hi, hsz, hv, hS, Value.cells, go_sem]
  have w2 := e2 a.eval h1 h2
  clear hS e2 h1 h2
  unfold Oper.wp
  rw [w2]
  exact K
set_option maxRecDepth 100000 in
set_option maxHeartbeats 16000000 in
theorem specNewSh_any (w : World) (cb cg co cn ce cf ct cc : Int) (na : Option Addr) (nc : Nat) (ns : List ByteArray) (ls lc lt r1 r2 r3 r4 r5 : Int) (hl : ns.length ≤ 1048576) (hi : TIn w na ns) :
    Calls Tryz.prog 14 #[.agg #[.int .i64 cb, .int .i64 cg, .int .i64 co, .int .i64 cn, .int .i64 ce, .int .i64 cf, .int .i64 ct, .int .i64 cc, .slice na ns.length nc, .int .i64 ls, .int .i64 lc, .int .i64 lt, .int .i64 r1, .int .i64 r2, .int .i64 r3, .int .i64 r4, .int .i64 r5]] w fun e w' => (∃ ra rn rk, e = .returned (.agg #[.int .i64 (cfgC cb cg co cn ce cf ct cc ns ls lc lt r1 r2 r3 r4 r5), .int .i64 (shI (cfgC cb cg co cn ce cf ct cc ns ls lc lt r1 r2 r3 r4 r5) cb), .int .i64 (shI (cfgC cb cg co cn ce cf ct cc ns ls lc lt r1 r2 r3 r4 r5) cg), .int .i64 (shI (cfgC cb cg co cn ce cf ct cc ns ls lc lt r1 r2 r3 r4 r5) co), .int .i64 (shI (cfgC cb cg co cn ce cf ct cc ns ls lc lt r1 r2 r3 r4 r5) cn), .int .i64 (shI (cfgC cb cg co cn ce cf ct cc ns ls lc lt r1 r2 r3 r4 r5) ce), .int .i64 (shI (cfgC cb cg co cn ce cf ct cc ns ls lc lt r1 r2 r3 r4 r5) cf), .int .i64 (shI (cfgC cb cg co cn ce cf ct cc ns ls lc lt r1 r2 r3 r4 r5) ct), .int .i64 (shI (cfgC cb cg co cn ce cf ct cc ns ls lc lt r1 r2 r3 r4 r5) cc), .slice ra rn rk, .int .i64 (shI (cfgC cb cg co cn ce cf ct cc ns ls lc lt r1 r2 r3 r4 r5) ls), .int .i64 (shI (cfgC cb cg co cn ce cf ct cc ns ls lc lt r1 r2 r3 r4 r5) lc), .int .i64 (shI (cfgC cb cg co cn ce cf ct cc ns ls lc lt r1 r2 r3 r4 r5) lt), .int .i64 (shI (cfgC cb cg co cn ce cf ct cc ns ls lc lt r1 r2 r3 r4 r5) r1), .int .i64 (shI (cfgC cb cg co cn ce cf ct cc ns ls lc lt r1 r2 r3 r4 r5) r2), .int .i64 (shI (cfgC cb cg co cn ce cf ct cc ns ls lc lt r1 r2 r3 r4 r5) r3), .int .i64 (shI (cfgC cb cg co cn ce cf ct cc ns ls lc lt r1 r2 r3 r4 r5) r4), .int .i64 (shI (cfgC cb cg co cn ce cf ct cc ns ls lc lt r1 r2 r3 r4 r5) r5), .int .i64 0, .int .i64 0, .int .i64 (shI (cfgC cb cg co cn ce cf ct cc ns ls lc lt r1 r2 r3 r4 r5) cb), .int .i64 (shI (cfgC cb cg co cn ce cf ct cc ns ls lc lt r1 r2 r3 r4 r5) cg), .slice none 0 0, .slice none 0 0, .slice none 0 0, .slice none 0 0]) ∧ At w.heap.size w'.heap.size (NL (shL (cfgC cb cg co cn ce cf ct cc ns ls lc lt r1 r2 r3 r4 r5) ns) ra rn rk) w') ∧ Below w.heap.size w w' := by
  obtain ⟨V, hV⟩ : ∃ V, V = (w.alloc (.cells #[.int .i64 cb, .int .i64 cg, .int .i64 co, .int .i64 cn, .int .i64 ce, .int .i64 cf, .int .i64 ct, .int .i64 cc, .slice na ns.length nc, .int .i64 ls, .int .i64 lc, .int .i64 lt, .int .i64 r1, .int .i64 r2, .int .i64 r3, .int .i64 r4, .int .i64 r5] 41)).alloc (.cells #[.int .i64 0, .int .i64 0, .int .i64 0, .int .i64 0, .int .i64 0, .int .i64 0, .int .i64 0, .int .i64 0, .int .i64 0, .slice none 0 0, .int .i64 0, .int .i64 0, .int .i64 0, .int .i64 0, .int .i64 0, .int .i64 0, .int .i64 0, .int .i64 0, .int .i64 0, .int .i64 0, .int .i64 0, .int .i64 0, .slice none 0 0, .slice none 0 0, .slice none 0 0, .slice none 0 0] 54) := ⟨_, rfl⟩
  have HV : Hid (V = (w.alloc (.cells #[.int .i64 cb, .int .i64 cg, .int .i64 co, .int .i64 cn, .int .i64 ce, .int .i64 cf, .int .i64 ct, .int .i64 cc, .slice na ns.length nc, .int .i64 ls, .int .i64 lc, .int .i64 lt, .int .i64 r1, .int .i64 r2, .int .i64 r3, .int .i64 r4, .int .i64 r5] 41)).alloc (.cells #[.int .i64 0, .int .i64 0, .int .i64 0, .int .i64 0, .int .i64 0, .int .i64 0, .int .i64 0, .int .i64 0, .int .i64 0, .slice none 0 0, .int .i64 0, .int .i64 0, .int .i64 0, .int .i64 0, .int .i64 0, .int .i64 0, .int .i64 0, .int .i64 0, .int .i64 0, .int .i64 0, .int .i64 0, .int .i64 0, .slice none 0 0, .slice none 0 0, .slice none 0 0, .slice none 0 0] 54)) := hV
  have bV : Below w.heap.size w V := by rw [hV]; exact ((Below.refl _ _).alloc (Nat.le_refl _) _).alloc (by simp) _
  have KV := hidL bV
  have SZ := hidL (show w.heap.size + 2 ≤ V.heap.size by rw [hV]; simp)
  have FB := hidL (show At w.heap.size (w.heap.size + 1) (Bx w.heap.size [.int .i64 cb, .int .i64 cg, .int .i64 co, .int .i64 cn, .int .i64 ce, .int .i64 cf, .int .i64 ct, .int .i64 cc, .slice na ns.length nc, .int .i64 ls, .int .i64 lc, .int .i64 lt, .int .i64 r1, .int .i64 r2, .int .i64 r3, .int .i64 r4, .int .i64 r5]) V by rw [hV]; exact (Bx.new _ [.int .i64 cb, .int .i64 cg, .int .i64 co, .int .i64 cn, .int .i64 ce, .int .i64 cf, .int .i64 ct, .int .i64 cc, .slice na ns.length nc, .int .i64 ls, .int .i64 lc, .int .i64 lt, .int .i64 r1, .int .i64 r2, .int .i64 r3, .int .i64 r4, .int .i64 r5] _).al _)
  have FZ := hidL (show At (w.heap.size + 1) (w.heap.size + 1 + 1) (Bx (w.heap.size + 1) [.int .i64 0, .int .i64 0, .int .i64 0, .int .i64 0, .int .i64 0, .int .i64 0, .int .i64 0, .int .i64 0, .int .i64 0, .slice none 0 0, .int .i64 0, .int .i64 0, .int .i64 0, .int .i64 0, .int .i64 0, .int .i64 0, .int .i64 0, .int .i64 0, .int .i64 0, .int .i64 0, .int .i64 0, .int .i64 0, .slice none 0 0, .slice none 0 0, .slice none 0 0, .slice none 0 0]) V by rw [hV]; exact Bx.newAt (by simp) [.int .i64 0, .int .i64 0, .int .i64 0, .int .i64 0, .int .i64 0, .int .i64 0, .int .i64 0, .int .i64 0, .int .i64 0, .slice none 0 0, .int .i64 0, .int .i64 0, .int .i64 0, .int .i64 0, .int .i64 0, .int .i64 0, .int .i64 0, .int .i64 0, .int .i64 0, .int .i64 0, .int .i64 0, .int .i64 0, .slice none 0 0, .slice none 0 0, .slice none 0 0, .slice none 0 0] _)
  have C1 : Hid (Calls Tryz.prog 36 #[.agg #[.int .i64 cb, .int .i64 cg, .int .i64 co, .int .i64 cn, .int .i64 ce, .int .i64 cf, .int .i64 ct, .int .i64 cc, .slice na ns.length nc, .int .i64 ls, .int .i64 lc, .int .i64 lt, .int .i64 r1, .int .i64 r2, .int .i64 r3, .int .i64 r4, .int .i64 r5]] V fun e w' => e = .returned (.int .i64 (cfgC cb cg co cn ce cf ct cc ns ls lc lt r1 r2 r3 r4 r5)) ∧ Below V.heap.size V w') := specCfg_any V cb cg co cn ce cf ct cc na nc ns ls lc lt r1 r2 r3 r4 r5 hl (hi.keep bV)
  have C2 : Hid (∀ X, Below w.heap.size w X → At w.heap.size (w.heap.size + 1) (Bx w.heap.size [.int .i64 cb, .int .i64 cg, .int .i64 co, .int .i64 cn, .int .i64 ce, .int .i64 cf, .int .i64 ct, .int .i64 cc, .slice na ns.length nc, .int .i64 ls, .int .i64 lc, .int .i64 lt, .int .i64 r1, .int .i64 r2, .int .i64 r3, .int .i64 r4, .int .i64 r5]) X → Calls Tryz.prog 56 #[.pointer (some ⟨w.heap.size, 0, none⟩)] X fun e w' => (∃ va vc, e = .returned (.agg #[.int .i64 cb, .int .i64 cg, .int .i64 co, .int .i64 cn, .int .i64 ce, .int .i64 cf, .int .i64 ct, .int .i64 cc, .slice va ns.length vc, .int .i64 ls, .int .i64 lc, .int .i64 lt, .int .i64 r1, .int .i64 r2, .int .i64 r3, .int .i64 r4, .int .i64 r5]) ∧ At X.heap.size w'.heap.size (NL ns va ns.length vc) w') ∧ Below X.heap.size X w') := fun X hX hB => l14Copy_any X w.heap.size cb cg co cn ce cf ct cc na nc ns ls lc lt r1 r2 r3 r4 r5 hl (hi.keep hX) hB
  clear hV bV hl hi
  obtain ⟨n, hn⟩ : ∃ n, ns.length = n := ⟨_, rfl⟩
  obtain ⟨c, hc⟩ : ∃ c, cfgC cb cg co cn ce cf ct cc ns ls lc lt r1 r2 r3 r4 r5 = c := ⟨_, rfl⟩
  rw [hn] at HV FB C1 C2 ⊢
  rw [hc] at C1 ⊢
  clear hn hc
  have LB := hidL FB.out.val.1
  have LZ := hidL FZ.out.val.1
  have LZf := hidL FZ.out.val.2
  by_cases c0 : c = 0
  · rw [c0] at C1 ⊢
    simp only [shI_z, shL_z]
    go_enter Tryz.func14, Tryz.ntmps14
    go_upto_region 1 with fail
    rw [← HV.out]
    clear HV LZ LZf
    go_wp2_with (first | ((with_reducible refine cfgI_load (b := w.heap.size) (vs := [.int .i64 cb, .int .i64 cg, .int .i64 co, .int .i64 cn, .int .i64 ce, .int .i64 cf, .int .i64 ct, .int .i64 cc, .slice na n nc, .int .i64 ls, .int .i64 lc, .int .i64 lt, .int .i64 r1, .int .i64 r2, .int .i64 r3, .int .i64 r4, .int .i64 r5]) ?_ ?_ LB.out ?_); exact rfl; exact rfl))
    refine C1.out.mono ?_
    rintro e w1 ⟨rfl, hb⟩
    have K1 := hidL (KV.out.trans (hb.mono KV.out.size))
    replace FB := hidL (FB.out.keep hb)
    replace FZ := hidL (FZ.out.keep hb)
    have S1 := hidL (Nat.le_trans SZ.out hb.size)
    clear hb C1 KV LB SZ
    go_upto_region 4 with fail
    have HKS : Hid (∀ X, Below w1.heap.size w1 X → (fun Y : World => Y.cell? ⟨w.heap.size, 0, none⟩ = some (.int .i64 cb) ∧ Y.cell? ⟨w.heap.size, 1, none⟩ = some (.int .i64 cg)) X) := fun X hX => ⟨(FB.out.keep hX).val.1 0 _ rfl, (FB.out.keep hX).val.1 1 _ rfl⟩
    have B0 : Hid (Below w1.heap.size w1 w1.drew) := (Below.refl _ _).drew
    have HS0 := hidL (HKS.out _ B0.out)
    refine wp_region_last (fun Y : World => Y.cell? ⟨w.heap.size, 0, none⟩ = some (.int .i64 cb) ∧ Y.cell? ⟨w.heap.size, 1, none⟩ = some (.int .i64 cg)) 8 (by kernel_rfl) ?_
    refine butLast_take (i := 1) (oi := _) (v := .pointer (some ⟨w.heap.size, 0, none⟩)) rfl (by kernel_rfl) (by kernel_rfl) (by kernel_rfl) (by kernel_rfl) (fun _ _ _ h => h) (Or.inl ⟨by kernel_rfl, ?_⟩) HS0.out ?_
    · rintro X ⟨s1, s2⟩
      go_simp
    try simp only [Act.put, List.setIfInBounds_toArray, List.set_cons_zero, List.set_cons_succ]
    refine butLast_take (i := 2) (oi := _) (v := .int .i64 cb) rfl (by kernel_rfl) (by kernel_rfl) (by kernel_rfl) (by kernel_rfl) (fun _ _ _ h => h) (Or.inl ⟨by kernel_rfl, ?_⟩) HS0.out ?_
    · rintro X ⟨s1, s2⟩
      go_simp
    try simp only [Act.put, List.setIfInBounds_toArray, List.set_cons_zero, List.set_cons_succ]
    refine butLast_take (i := 3) (oi := _) (v := .pointer (some ⟨w.heap.size, 1, none⟩)) rfl (by kernel_rfl) (by kernel_rfl) (by kernel_rfl) (by kernel_rfl) (fun _ _ _ h => h) (Or.inl ⟨by kernel_rfl, ?_⟩) HS0.out ?_
    · rintro X ⟨s1, s2⟩
      go_simp
    try simp only [Act.put, List.setIfInBounds_toArray, List.set_cons_zero, List.set_cons_succ]
    refine butLast_take (i := 4) (oi := _) (v := .int .i64 cg) rfl (by kernel_rfl) (by kernel_rfl) (by kernel_rfl) (by kernel_rfl) (fun _ _ _ h => h) (Or.inl ⟨by kernel_rfl, ?_⟩) HS0.out ?_
    · rintro X ⟨s1, s2⟩
      go_simp
    try simp only [Act.put, List.setIfInBounds_toArray, List.set_cons_zero, List.set_cons_succ]
    refine butLast_take (i := 5) (oi := _) (v := .agg #[.int .i64 cb, .int .i64 cg, .slice none 0 0, .slice none 0 0]) rfl (by kernel_rfl) (by kernel_rfl) (by kernel_rfl) (by kernel_rfl) (fun _ _ _ h => h) (Or.inl ⟨by kernel_rfl, ?_⟩) HS0.out ?_
    · rintro X ⟨s1, s2⟩
      go_simp
    try simp only [Act.put, List.setIfInBounds_toArray, List.set_cons_zero, List.set_cons_succ]
    refine butLast_one (i := 0) rfl (by kernel_rfl) (fun K hK => ?_)
    go_simp
    refine (C2.out _ (K1.out.trans (B0.out.mono K1.out.size)) (FB.out.keep B0.out)).mono ?_
    rintro e0 w2 ⟨⟨va, vc, rfl, ca⟩, hb⟩
    have BA : Hid (Below w1.heap.size w1 w2) := B0.out.trans (hb.mono B0.out.size)
    have CA := hidL ca
    clear hb ca C2
    refine hK _ _ (.inr (HKS.out _ BA.out)) ?_
    clear hK K
    try simp only [Act.put, List.setIfInBounds_toArray, List.set_cons_zero, List.set_cons_succ]
    refine butLast_one (i := 6) rfl (by kernel_rfl) (fun K hK => ?_)
    go_simp
    refine hK _ _ (.inr (HKS.out _ BA.out)) ?_
    clear hK K
    try simp only [Act.put, List.setIfInBounds_toArray, List.set_cons_zero, List.set_cons_succ]
    refine butLast_one (i := 7) rfl (by kernel_rfl) (fun K hK => ?_)
    go_simp
    refine hK _ _ (.inr (HKS.out _ BA.out)) ?_
    clear hK K
    try simp only [Act.put, List.setIfInBounds_toArray, List.set_cons_zero, List.set_cons_succ]
    refine butLast_one (i := 8) rfl (by kernel_rfl) (fun K hK => ?_)
    replace FZ := hidL (FZ.out.keep BA.out)
    have LZ := hidL FZ.out.val.1
    have LZf := hidL FZ.out.val.2
    simp only [List.getElem_toArray, List.getElem_cons_succ, List.getElem_cons_zero]
    rw [if_pos (by simp [Region.wanted])]
    with_reducible refine shNew_put (b := w.heap.size + 1) (zs := [.int .i64 0, .int .i64 0, .int .i64 0, .int .i64 0, .int .i64 0, .int .i64 0, .int .i64 0, .int .i64 0, .int .i64 0, .slice none 0 0, .int .i64 0, .int .i64 0, .int .i64 0, .int .i64 0, .int .i64 0, .int .i64 0, .int .i64 0, .int .i64 0, .int .i64 0, .int .i64 0, .int .i64 0, .int .i64 0, .slice none 0 0, .slice none 0 0, .slice none 0 0, .slice none 0 0]) (vs := [.int .i64 0, .int .i64 cb, .int .i64 cg, .int .i64 co, .int .i64 cn, .int .i64 ce, .int .i64 cf, .int .i64 ct, .int .i64 cc, .slice va n vc, .int .i64 ls, .int .i64 lc, .int .i64 lt, .int .i64 r1, .int .i64 r2, .int .i64 r3, .int .i64 r4, .int .i64 r5, .int .i64 0, .int .i64 0, .int .i64 cb, .int .i64 cg, .slice none 0 0, .slice none 0 0, .slice none 0 0, .slice none 0 0]) ?_ ?_ ?_ ?_ ?_ LZ.out LZf.out ?_
    · rfl
    · rfl
    · rfl
    · rfl
    · rfl
    refine hK _ _ (.inl rfl) ?_
    clear hK K
    try simp only [Act.put, List.setIfInBounds_toArray, List.set_cons_zero, List.set_cons_succ]
    refine butLast_end (by kernel_rfl) ?_
    have KE := hidL (K1.out.trans (BA.out.mono K1.out.size))
    have b0 := B0.out.size
    have s1 := S1.out
    clear HKS HS0 BA FB K1
    obtain ⟨VF, hVF⟩ : ∃ V, V = putAll w2 (w.heap.size + 1) 0 [.int .i64 0, .int .i64 cb, .int .i64 cg, .int .i64 co, .int .i64 cn, .int .i64 ce, .int .i64 cf, .int .i64 ct, .int .i64 cc, .slice va n vc, .int .i64 ls, .int .i64 lc, .int .i64 lt, .int .i64 r1, .int .i64 r2, .int .i64 r3, .int .i64 r4, .int .i64 r5, .int .i64 0, .int .i64 0, .int .i64 cb, .int .i64 cg, .slice none 0 0, .slice none 0 0, .slice none 0 0, .slice none 0 0] := ⟨_, rfl⟩
    rw [← hVF]
    have R : At (w.heap.size + 1) (w.heap.size + 1 + 1) (Bx (w.heap.size + 1) [.int .i64 0, .int .i64 cb, .int .i64 cg, .int .i64 co, .int .i64 cn, .int .i64 ce, .int .i64 cf, .int .i64 ct, .int .i64 cc, .slice va n vc, .int .i64 ls, .int .i64 lc, .int .i64 lt, .int .i64 r1, .int .i64 r2, .int .i64 r3, .int .i64 r4, .int .i64 r5, .int .i64 0, .int .i64 0, .int .i64 cb, .int .i64 cg, .slice none 0 0, .slice none 0 0, .slice none 0 0, .slice none 0 0]) VF := by rw [hVF]; exact Bx.putAll FZ.out [.int .i64 0, .int .i64 cb, .int .i64 cg, .int .i64 co, .int .i64 cn, .int .i64 ce, .int .i64 cf, .int .i64 ct, .int .i64 cc, .slice va n vc, .int .i64 ls, .int .i64 lc, .int .i64 lt, .int .i64 r1, .int .i64 r2, .int .i64 r3, .int .i64 r4, .int .i64 r5, .int .i64 0, .int .i64 0, .int .i64 cb, .int .i64 cg, .slice none 0 0, .slice none 0 0, .slice none 0 0, .slice none 0 0] rfl
    have KF : Below w.heap.size w VF := by rw [hVF]; exact below_putAll (by omega) [.int .i64 0, .int .i64 cb, .int .i64 cg, .int .i64 co, .int .i64 cn, .int .i64 ce, .int .i64 cf, .int .i64 ct, .int .i64 cc, .slice va n vc, .int .i64 ls, .int .i64 lc, .int .i64 lt, .int .i64 r1, .int .i64 r2, .int .i64 r3, .int .i64 r4, .int .i64 r5, .int .i64 0, .int .i64 0, .int .i64 cb, .int .i64 cg, .slice none 0 0, .slice none 0 0, .slice none 0 0, .slice none 0 0] 0 KE.out
    have E1 := At.putAll (X := w2) (b := w.heap.size + 1) (.inl (by omega)) [.int .i64 0, .int .i64 cb, .int .i64 cg, .int .i64 co, .int .i64 cn, .int .i64 ce, .int .i64 cf, .int .i64 ct, .int .i64 cc, .slice va n vc, .int .i64 ls, .int .i64 lc, .int .i64 lt, .int .i64 r1, .int .i64 r2, .int .i64 r3, .int .i64 r4, .int .i64 r5, .int .i64 0, .int .i64 0, .int .i64 cb, .int .i64 cg, .slice none 0 0, .slice none 0 0, .slice none 0 0, .slice none 0 0] 0 CA.out
    rw [← hVF] at E1
    have z1 := E1.le
    have ER := hidL (show At w.heap.size VF.heap.size (NL ns va n vc) VF from ⟨Nat.le_refl _, NL.dep _ _ _ _ _ _, E1.val.1, E1.val.2.wide (by omega) z1⟩)
    clear z1 E1
    have KF2 := hidL KF
    have R2 := hidL R
    clear hVF R KF
    go_wp2_with fail
    have RL := hidL R2.out.val.1
    refine bodyPost_ret (v := .agg #[.int .i64 0, .int .i64 cb, .int .i64 cg, .int .i64 co, .int .i64 cn, .int .i64 ce, .int .i64 cf, .int .i64 ct, .int .i64 cc, .slice va n vc, .int .i64 ls, .int .i64 lc, .int .i64 lt, .int .i64 r1, .int .i64 r2, .int .i64 r3, .int .i64 r4, .int .i64 r5, .int .i64 0, .int .i64 0, .int .i64 cb, .int .i64 cg, .slice none 0 0, .slice none 0 0, .slice none 0 0, .slice none 0 0]) ?_ rfl ⟨⟨va, n, vc, rfl, ER.out⟩, KF2.out⟩
    exact results_box (b := w.heap.size + 1) (vs := [.int .i64 0, .int .i64 cb, .int .i64 cg, .int .i64 co, .int .i64 cn, .int .i64 ce, .int .i64 cf, .int .i64 ct, .int .i64 cc, .slice va n vc, .int .i64 ls, .int .i64 lc, .int .i64 lt, .int .i64 r1, .int .i64 r2, .int .i64 r3, .int .i64 r4, .int .i64 r5, .int .i64 0, .int .i64 0, .int .i64 cb, .int .i64 cg, .slice none 0 0, .slice none 0 0, .slice none 0 0, .slice none 0 0]) Tryz.results14 Tryz.underlying54 shR_size rfl RL.out
  · simp only [shI_n c0, shL_n c0]
    go_enter Tryz.func14, Tryz.ntmps14
    go_upto_region 1 with fail
    rw [← HV.out]
    clear HV LZ LZf
    go_wp2_with (first | ((with_reducible refine cfgI_load (b := w.heap.size) (vs := [.int .i64 cb, .int .i64 cg, .int .i64 co, .int .i64 cn, .int .i64 ce, .int .i64 cf, .int .i64 ct, .int .i64 cc, .slice na n nc, .int .i64 ls, .int .i64 lc, .int .i64 lt, .int .i64 r1, .int .i64 r2, .int .i64 r3, .int .i64 r4, .int .i64 r5]) ?_ ?_ LB.out ?_); exact rfl; exact rfl))
    refine C1.out.mono ?_
    rintro e w1 ⟨rfl, hb⟩
    have K1 := hidL (KV.out.trans (hb.mono KV.out.size))
    replace FZ := hidL (FZ.out.keep hb)
    clear hb C1 C2 KV LB FB SZ
    have LZ := hidL FZ.out.val.1
    have LZf := hidL FZ.out.val.2
    go_wp2_with (first | ((with_reducible refine shR_put (b := w.heap.size + 1) (zs := [.int .i64 0, .int .i64 0, .int .i64 0, .int .i64 0, .int .i64 0, .int .i64 0, .int .i64 0, .int .i64 0, .int .i64 0, .slice none 0 0, .int .i64 0, .int .i64 0, .int .i64 0, .int .i64 0, .int .i64 0, .int .i64 0, .int .i64 0, .int .i64 0, .int .i64 0, .int .i64 0, .int .i64 0, .int .i64 0, .slice none 0 0, .slice none 0 0, .slice none 0 0, .slice none 0 0]) (vs := [.int .i64 c, .int .i64 0, .int .i64 0, .int .i64 0, .int .i64 0, .int .i64 0, .int .i64 0, .int .i64 0, .int .i64 0, .slice none 0 0, .int .i64 0, .int .i64 0, .int .i64 0, .int .i64 0, .int .i64 0, .int .i64 0, .int .i64 0, .int .i64 0, .int .i64 0, .int .i64 0, .int .i64 0, .int .i64 0, .slice none 0 0, .slice none 0 0, .slice none 0 0, .slice none 0 0]) ?_ ?_ ?_ ?_ ?_ LZ.out LZf.out ?_); exact rfl; exact rfl; exact rfl; exact rfl; exact rfl))
    obtain ⟨VF, hVF⟩ : ∃ V, V = putAll w1 (w.heap.size + 1) 0 [.int .i64 c, .int .i64 0, .int .i64 0, .int .i64 0, .int .i64 0, .int .i64 0, .int .i64 0, .int .i64 0, .int .i64 0, .slice none 0 0, .int .i64 0, .int .i64 0, .int .i64 0, .int .i64 0, .int .i64 0, .int .i64 0, .int .i64 0, .int .i64 0, .int .i64 0, .int .i64 0, .int .i64 0, .int .i64 0, .slice none 0 0, .slice none 0 0, .slice none 0 0, .slice none 0 0] := ⟨_, rfl⟩
    rw [← hVF]
    have R : At (w.heap.size + 1) (w.heap.size + 1 + 1) (Bx (w.heap.size + 1) [.int .i64 c, .int .i64 0, .int .i64 0, .int .i64 0, .int .i64 0, .int .i64 0, .int .i64 0, .int .i64 0, .int .i64 0, .slice none 0 0, .int .i64 0, .int .i64 0, .int .i64 0, .int .i64 0, .int .i64 0, .int .i64 0, .int .i64 0, .int .i64 0, .int .i64 0, .int .i64 0, .int .i64 0, .int .i64 0, .slice none 0 0, .slice none 0 0, .slice none 0 0, .slice none 0 0]) VF := by rw [hVF]; exact Bx.putAll FZ.out [.int .i64 c, .int .i64 0, .int .i64 0, .int .i64 0, .int .i64 0, .int .i64 0, .int .i64 0, .int .i64 0, .int .i64 0, .slice none 0 0, .int .i64 0, .int .i64 0, .int .i64 0, .int .i64 0, .int .i64 0, .int .i64 0, .int .i64 0, .int .i64 0, .int .i64 0, .int .i64 0, .int .i64 0, .int .i64 0, .slice none 0 0, .slice none 0 0, .slice none 0 0, .slice none 0 0] rfl
    have KF : Below w.heap.size w VF := by rw [hVF]; exact below_putAll (by omega) [.int .i64 c, .int .i64 0, .int .i64 0, .int .i64 0, .int .i64 0, .int .i64 0, .int .i64 0, .int .i64 0, .int .i64 0, .slice none 0 0, .int .i64 0, .int .i64 0, .int .i64 0, .int .i64 0, .int .i64 0, .int .i64 0, .int .i64 0, .int .i64 0, .int .i64 0, .int .i64 0, .int .i64 0, .int .i64 0, .slice none 0 0, .slice none 0 0, .slice none 0 0, .slice none 0 0] 0 K1.out
    have ER := hidL (show At w.heap.size VF.heap.size (NL [] none 0 0) VF from ⟨Nat.le_refl _, NL.dep _ _ _ _ _ _, rfl, .inl ⟨rfl, rfl⟩, fun b h => by cases h⟩)
    have KF2 := hidL KF
    have R2 := hidL R
    clear hVF R KF
    have RL := hidL R2.out.val.1
    refine bodyPost_ret (v := .agg #[.int .i64 c, .int .i64 0, .int .i64 0, .int .i64 0, .int .i64 0, .int .i64 0, .int .i64 0, .int .i64 0, .int .i64 0, .slice none 0 0, .int .i64 0, .int .i64 0, .int .i64 0, .int .i64 0, .int .i64 0, .int .i64 0, .int .i64 0, .int .i64 0, .int .i64 0, .int .i64 0, .int .i64 0, .int .i64 0, .slice none 0 0, .slice none 0 0, .slice none 0 0, .slice none 0 0]) ?_ rfl ⟨⟨none, 0, 0, rfl, ER.out⟩, KF2.out⟩
    exact results_box (b := w.heap.size + 1) (vs := [.int .i64 c, .int .i64 0, .int .i64 0, .int .i64 0, .int .i64 0, .int .i64 0, .int .i64 0, .int .i64 0, .int .i64 0, .slice none 0 0, .int .i64 0, .int .i64 0, .int .i64 0, .int .i64 0, .int .i64 0, .int .i64 0, .int .i64 0, .int .i64 0, .int .i64 0, .int .i64 0, .int .i64 0, .int .i64 0, .slice none 0 0, .slice none 0 0, .slice none 0 0, .slice none 0 0]) Tryz.results14 Tryz.underlying54 shR_size rfl RL.out
end Go.Proofs.YtlbagfaiiileoaaGreatDoor
/-
  NewShield, by the program.
-/
namespace Go.Proofs.YtlbagfaiiileoaaGreatDoor
open Go.ChangeShapes Go.WideShapes Go.ChangeAt Go.RowKit Go.Sort
set_option linter.unusedSimpArgs false
set_option maxRecDepth 100000 in
set_option maxHeartbeats 16000000 in
theorem implNewSh_any (w : World) (cb cg co cn ce cf ct cc : Int) (na : Option Addr) (nc : Nat) (ns : List ByteArray) (ls lc lt r1 r2 r3 r4 r5 : Int) (hl : ns.length ≤ 1048576) (hz : ∀ r ∈ ns, r.size ≤ 1048576) (hset : SetIs w) (hi : TIn w na ns) :
    Calls Tryz.prog 16 #[.agg #[.int .i64 cb, .int .i64 cg, .int .i64 co, .int .i64 cn, .int .i64 ce, .int .i64 cf, .int .i64 ct, .int .i64 cc, .slice na ns.length nc, .int .i64 ls, .int .i64 lc, .int .i64 lt, .int .i64 r1, .int .i64 r2, .int .i64 r3, .int .i64 r4, .int .i64 r5]] w fun e w' => (∃ ra rn rk, e = .returned (.agg #[.int .i64 (cfgC cb cg co cn ce cf ct cc ns ls lc lt r1 r2 r3 r4 r5), .int .i64 (shI (cfgC cb cg co cn ce cf ct cc ns ls lc lt r1 r2 r3 r4 r5) cb), .int .i64 (shI (cfgC cb cg co cn ce cf ct cc ns ls lc lt r1 r2 r3 r4 r5) cg), .int .i64 (shI (cfgC cb cg co cn ce cf ct cc ns ls lc lt r1 r2 r3 r4 r5) co), .int .i64 (shI (cfgC cb cg co cn ce cf ct cc ns ls lc lt r1 r2 r3 r4 r5) cn), .int .i64 (shI (cfgC cb cg co cn ce cf ct cc ns ls lc lt r1 r2 r3 r4 r5) ce), .int .i64 (shI (cfgC cb cg co cn ce cf ct cc ns ls lc lt r1 r2 r3 r4 r5) cf), .int .i64 (shI (cfgC cb cg co cn ce cf ct cc ns ls lc lt r1 r2 r3 r4 r5) ct), .int .i64 (shI (cfgC cb cg co cn ce cf ct cc ns ls lc lt r1 r2 r3 r4 r5) cc), .slice ra rn rk, .int .i64 (shI (cfgC cb cg co cn ce cf ct cc ns ls lc lt r1 r2 r3 r4 r5) ls), .int .i64 (shI (cfgC cb cg co cn ce cf ct cc ns ls lc lt r1 r2 r3 r4 r5) lc), .int .i64 (shI (cfgC cb cg co cn ce cf ct cc ns ls lc lt r1 r2 r3 r4 r5) lt), .int .i64 (shI (cfgC cb cg co cn ce cf ct cc ns ls lc lt r1 r2 r3 r4 r5) r1), .int .i64 (shI (cfgC cb cg co cn ce cf ct cc ns ls lc lt r1 r2 r3 r4 r5) r2), .int .i64 (shI (cfgC cb cg co cn ce cf ct cc ns ls lc lt r1 r2 r3 r4 r5) r3), .int .i64 (shI (cfgC cb cg co cn ce cf ct cc ns ls lc lt r1 r2 r3 r4 r5) r4), .int .i64 (shI (cfgC cb cg co cn ce cf ct cc ns ls lc lt r1 r2 r3 r4 r5) r5), .int .i64 0, .int .i64 0, .int .i64 (shI (cfgC cb cg co cn ce cf ct cc ns ls lc lt r1 r2 r3 r4 r5) cb), .int .i64 (shI (cfgC cb cg co cn ce cf ct cc ns ls lc lt r1 r2 r3 r4 r5) cg), .slice none 0 0, .slice none 0 0, .slice none 0 0, .slice none 0 0]) ∧ At w.heap.size w'.heap.size (NL (shL (cfgC cb cg co cn ce cf ct cc ns ls lc lt r1 r2 r3 r4 r5) ns) ra rn rk) w') ∧ Below w.heap.size w w' := by
  obtain ⟨V, hV⟩ : ∃ V, V = (w.alloc (.cells #[.int .i64 cb, .int .i64 cg, .int .i64 co, .int .i64 cn, .int .i64 ce, .int .i64 cf, .int .i64 ct, .int .i64 cc, .slice na ns.length nc, .int .i64 ls, .int .i64 lc, .int .i64 lt, .int .i64 r1, .int .i64 r2, .int .i64 r3, .int .i64 r4, .int .i64 r5] 41)).alloc (.cells #[.int .i64 0, .int .i64 0, .int .i64 0, .int .i64 0, .int .i64 0, .int .i64 0, .int .i64 0, .int .i64 0, .int .i64 0, .slice none 0 0, .int .i64 0, .int .i64 0, .int .i64 0, .int .i64 0, .int .i64 0, .int .i64 0, .int .i64 0, .int .i64 0, .int .i64 0, .int .i64 0, .int .i64 0, .int .i64 0, .slice none 0 0, .slice none 0 0, .slice none 0 0, .slice none 0 0] 54) := ⟨_, rfl⟩
  have HV : Hid (V = (w.alloc (.cells #[.int .i64 cb, .int .i64 cg, .int .i64 co, .int .i64 cn, .int .i64 ce, .int .i64 cf, .int .i64 ct, .int .i64 cc, .slice na ns.length nc, .int .i64 ls, .int .i64 lc, .int .i64 lt, .int .i64 r1, .int .i64 r2, .int .i64 r3, .int .i64 r4, .int .i64 r5] 41)).alloc (.cells #[.int .i64 0, .int .i64 0, .int .i64 0, .int .i64 0, .int .i64 0, .int .i64 0, .int .i64 0, .int .i64 0, .int .i64 0, .slice none 0 0, .int .i64 0, .int .i64 0, .int .i64 0, .int .i64 0, .int .i64 0, .int .i64 0, .int .i64 0, .int .i64 0, .int .i64 0, .int .i64 0, .int .i64 0, .int .i64 0, .slice none 0 0, .slice none 0 0, .slice none 0 0, .slice none 0 0] 54)) := hV
  have bV : Below w.heap.size w V := by rw [hV]; exact ((Below.refl _ _).alloc (Nat.le_refl _) _).alloc (by simp) _
  have KV := hidL bV
  have SZ := hidL (show w.heap.size + 2 ≤ V.heap.size by rw [hV]; simp)
  have FB := hidL (show At w.heap.size (w.heap.size + 1) (Bx w.heap.size [.int .i64 cb, .int .i64 cg, .int .i64 co, .int .i64 cn, .int .i64 ce, .int .i64 cf, .int .i64 ct, .int .i64 cc, .slice na ns.length nc, .int .i64 ls, .int .i64 lc, .int .i64 lt, .int .i64 r1, .int .i64 r2, .int .i64 r3, .int .i64 r4, .int .i64 r5]) V by rw [hV]; exact (Bx.new _ [.int .i64 cb, .int .i64 cg, .int .i64 co, .int .i64 cn, .int .i64 ce, .int .i64 cf, .int .i64 ct, .int .i64 cc, .slice na ns.length nc, .int .i64 ls, .int .i64 lc, .int .i64 lt, .int .i64 r1, .int .i64 r2, .int .i64 r3, .int .i64 r4, .int .i64 r5] _).al _)
  have FZ := hidL (show At (w.heap.size + 1) (w.heap.size + 1 + 1) (Bx (w.heap.size + 1) [.int .i64 0, .int .i64 0, .int .i64 0, .int .i64 0, .int .i64 0, .int .i64 0, .int .i64 0, .int .i64 0, .int .i64 0, .slice none 0 0, .int .i64 0, .int .i64 0, .int .i64 0, .int .i64 0, .int .i64 0, .int .i64 0, .int .i64 0, .int .i64 0, .int .i64 0, .int .i64 0, .int .i64 0, .int .i64 0, .slice none 0 0, .slice none 0 0, .slice none 0 0, .slice none 0 0]) V by rw [hV]; exact Bx.newAt (by simp) [.int .i64 0, .int .i64 0, .int .i64 0, .int .i64 0, .int .i64 0, .int .i64 0, .int .i64 0, .int .i64 0, .int .i64 0, .slice none 0 0, .int .i64 0, .int .i64 0, .int .i64 0, .int .i64 0, .int .i64 0, .int .i64 0, .int .i64 0, .int .i64 0, .int .i64 0, .int .i64 0, .int .i64 0, .int .i64 0, .slice none 0 0, .slice none 0 0, .slice none 0 0, .slice none 0 0] _)
  have C1 : Hid (Calls Tryz.prog 45 #[.agg #[.int .i64 cb, .int .i64 cg, .int .i64 co, .int .i64 cn, .int .i64 ce, .int .i64 cf, .int .i64 ct, .int .i64 cc, .slice na ns.length nc, .int .i64 ls, .int .i64 lc, .int .i64 lt, .int .i64 r1, .int .i64 r2, .int .i64 r3, .int .i64 r4, .int .i64 r5]] V fun e w' => e = .returned (.int .i64 (cfgC cb cg co cn ce cf ct cc ns ls lc lt r1 r2 r3 r4 r5)) ∧ Below V.heap.size V w') := implCfg_any V cb cg co cn ce cf ct cc na nc ns ls lc lt r1 r2 r3 r4 r5 hl (hset.below bV) (hi.keep bV)
  have C2 : Hid (∀ X, Below w.heap.size w X → Calls Tryz.prog 60 #[.agg #[.int .i64 cb, .int .i64 cg, .int .i64 co, .int .i64 cn, .int .i64 ce, .int .i64 cf, .int .i64 ct, .int .i64 cc, .slice na ns.length nc, .int .i64 ls, .int .i64 lc, .int .i64 lt, .int .i64 r1, .int .i64 r2, .int .i64 r3, .int .i64 r4, .int .i64 r5]] X fun e w' => (∃ va vc, e = .returned (.agg #[.int .i64 cb, .int .i64 cg, .int .i64 co, .int .i64 cn, .int .i64 ce, .int .i64 cf, .int .i64 ct, .int .i64 cc, .slice va ns.length vc, .int .i64 ls, .int .i64 lc, .int .i64 lt, .int .i64 r1, .int .i64 r2, .int .i64 r3, .int .i64 r4, .int .i64 r5]) ∧ At X.heap.size w'.heap.size (NL ns va ns.length vc) w') ∧ Below X.heap.size X w') := fun X hX => configAnew_any X cb cg co cn ce cf ct cc na nc ns ls lc lt r1 r2 r3 r4 r5 hl hz (hi.keep hX)
  have C3 : Hid (cfgC cb cg co cn ce cf ct cc ns ls lc lt r1 r2 r3 r4 r5 = 0 → ∀ X, Below w.heap.size w X → Calls Tryz.prog 61 #[.int .i64 cb, .int .i64 cg] X fun e w' => e = .returned (.agg #[.int .i64 0, .int .i64 cb, .int .i64 cg, .slice none 0 0, .slice none 0 0]) ∧ Below X.heap.size X w') := fun h0 X hX => by have := implNew_any X cb cg (hset.below hX); rw [cfgC_sto h0, if_pos rfl, if_pos rfl] at this; exact this
  clear hV bV hl hz hset hi
  obtain ⟨n, hn⟩ : ∃ n, ns.length = n := ⟨_, rfl⟩
  obtain ⟨c, hc⟩ : ∃ c, cfgC cb cg co cn ce cf ct cc ns ls lc lt r1 r2 r3 r4 r5 = c := ⟨_, rfl⟩
  rw [hn] at HV FB C1 C2 ⊢
  rw [hc] at C1 C3 ⊢
  clear hn hc
  have LB := hidL FB.out.val.1
  have LZ := hidL FZ.out.val.1
  have LZf := hidL FZ.out.val.2
  by_cases c0 : c = 0
  · rw [c0] at C1 ⊢
    replace C3 := hidL (C3.out c0)
    simp only [shI_z, shL_z]
    go_enter Tryz.func16, Tryz.ntmps16
    go_upto_region 1 with fail
    rw [← HV.out]
    clear HV LZ LZf
    go_wp2_with (first | ((with_reducible refine cfgI_load (b := w.heap.size) (vs := [.int .i64 cb, .int .i64 cg, .int .i64 co, .int .i64 cn, .int .i64 ce, .int .i64 cf, .int .i64 ct, .int .i64 cc, .slice na n nc, .int .i64 ls, .int .i64 lc, .int .i64 lt, .int .i64 r1, .int .i64 r2, .int .i64 r3, .int .i64 r4, .int .i64 r5]) ?_ ?_ LB.out ?_); exact rfl; exact rfl))
    refine C1.out.mono ?_
    rintro e w1 ⟨rfl, hb⟩
    have K1 := hidL (KV.out.trans (hb.mono KV.out.size))
    replace FB := hidL (FB.out.keep hb)
    replace FZ := hidL (FZ.out.keep hb)
    have S1 := hidL (Nat.le_trans SZ.out hb.size)
    clear hb C1 KV LB SZ
    go_upto_region 4 with fail
    have HKS : Hid (∀ X, Below w1.heap.size w1 X → (fun Y : World => Y.cell? ⟨w.heap.size, 0, none⟩ = some (.int .i64 cb) ∧ Y.cell? ⟨w.heap.size, 1, none⟩ = some (.int .i64 cg) ∧ Y.rangeAt w.heap.size 0 [.int .i64 cb, .int .i64 cg, .int .i64 co, .int .i64 cn, .int .i64 ce, .int .i64 cf, .int .i64 ct, .int .i64 cc, .slice na n nc, .int .i64 ls, .int .i64 lc, .int .i64 lt, .int .i64 r1, .int .i64 r2, .int .i64 r3, .int .i64 r4, .int .i64 r5]) X) := fun X hX => ⟨(FB.out.keep hX).val.1 0 _ rfl, (FB.out.keep hX).val.1 1 _ rfl, range_of (FB.out.keep hX).val.1⟩
    have B0 : Hid (Below w1.heap.size w1 w1.drew) := (Below.refl _ _).drew
    have HS0 := hidL (HKS.out _ B0.out)
    refine wp_region_last (fun Y : World => Y.cell? ⟨w.heap.size, 0, none⟩ = some (.int .i64 cb) ∧ Y.cell? ⟨w.heap.size, 1, none⟩ = some (.int .i64 cg) ∧ Y.rangeAt w.heap.size 0 [.int .i64 cb, .int .i64 cg, .int .i64 co, .int .i64 cn, .int .i64 ce, .int .i64 cf, .int .i64 ct, .int .i64 cc, .slice na n nc, .int .i64 ls, .int .i64 lc, .int .i64 lt, .int .i64 r1, .int .i64 r2, .int .i64 r3, .int .i64 r4, .int .i64 r5]) 10 (by kernel_rfl) ?_
    refine butLast_take (i := 0) (oi := _) (v := .agg #[.int .i64 cb, .int .i64 cg, .int .i64 co, .int .i64 cn, .int .i64 ce, .int .i64 cf, .int .i64 ct, .int .i64 cc, .slice na n nc, .int .i64 ls, .int .i64 lc, .int .i64 lt, .int .i64 r1, .int .i64 r2, .int .i64 r3, .int .i64 r4, .int .i64 r5]) rfl (by kernel_rfl) (by kernel_rfl) (by kernel_rfl) (by kernel_rfl) (fun _ _ _ h => h) (yieldsIf_load_mid (by rfl) _ _ rfl (w.heap.size) 0 rfl _ _ (fun _ h => h.2.2) Tryz.underlying41 rfl cfgI_size) HS0.out ?_
    try simp only [Act.put, List.setIfInBounds_toArray, List.set_cons_zero, List.set_cons_succ]
    refine butLast_take (i := 2) (oi := _) (v := .pointer (some ⟨w.heap.size, 0, none⟩)) rfl (by kernel_rfl) (by kernel_rfl) (by kernel_rfl) (by kernel_rfl) (fun _ _ _ h => h) (Or.inl ⟨by kernel_rfl, ?_⟩) HS0.out ?_
    · rintro X ⟨s1, s2, s3⟩
      go_simp
    try simp only [Act.put, List.setIfInBounds_toArray, List.set_cons_zero, List.set_cons_succ]
    refine butLast_take (i := 3) (oi := _) (v := .int .i64 cb) rfl (by kernel_rfl) (by kernel_rfl) (by kernel_rfl) (by kernel_rfl) (fun _ _ _ h => h) (Or.inl ⟨by kernel_rfl, ?_⟩) HS0.out ?_
    · rintro X ⟨s1, s2, s3⟩
      go_simp
    try simp only [Act.put, List.setIfInBounds_toArray, List.set_cons_zero, List.set_cons_succ]
    refine butLast_take (i := 4) (oi := _) (v := .pointer (some ⟨w.heap.size, 1, none⟩)) rfl (by kernel_rfl) (by kernel_rfl) (by kernel_rfl) (by kernel_rfl) (fun _ _ _ h => h) (Or.inl ⟨by kernel_rfl, ?_⟩) HS0.out ?_
    · rintro X ⟨s1, s2, s3⟩
      go_simp
    try simp only [Act.put, List.setIfInBounds_toArray, List.set_cons_zero, List.set_cons_succ]
    refine butLast_take (i := 5) (oi := _) (v := .int .i64 cg) rfl (by kernel_rfl) (by kernel_rfl) (by kernel_rfl) (by kernel_rfl) (fun _ _ _ h => h) (Or.inl ⟨by kernel_rfl, ?_⟩) HS0.out ?_
    · rintro X ⟨s1, s2, s3⟩
      go_simp
    try simp only [Act.put, List.setIfInBounds_toArray, List.set_cons_zero, List.set_cons_succ]
    refine butLast_one (i := 1) rfl (by kernel_rfl) (fun K hK => ?_)
    go_simp
    refine (C2.out _ (K1.out.trans (B0.out.mono K1.out.size))).mono ?_
    rintro e0 w2 ⟨⟨va, vc, rfl, ca⟩, hb⟩
    have BA : Hid (Below w1.heap.size w1 w2) := B0.out.trans (hb.mono B0.out.size)
    have CA := hidL ca
    clear hb ca C2
    refine hK _ _ (.inr (HKS.out _ BA.out)) ?_
    clear hK K
    try simp only [Act.put, List.setIfInBounds_toArray, List.set_cons_zero, List.set_cons_succ]
    refine butLast_one (i := 6) rfl (by kernel_rfl) (fun K hK => ?_)
    go_simp
    refine (C3.out _ (K1.out.trans (BA.out.mono K1.out.size))).mono ?_
    rintro e0 w3 ⟨rfl, hb⟩
    have BB : Hid (Below w1.heap.size w1 w3) := BA.out.trans (hb.mono BA.out.size)
    replace CA := hidL (CA.out.keep hb)
    clear hb C3
    refine hK _ _ (.inr (HKS.out _ BB.out)) ?_
    clear hK K
    try simp only [Act.put, List.setIfInBounds_toArray, List.set_cons_zero, List.set_cons_succ]
    refine butLast_one (i := 7) rfl (by kernel_rfl) (fun K hK => ?_)
    have hf := f_field_sh1 0 cb cg (.slice none 0 0) (.slice none 0 0)
    go_simp
    try (simp only [hf]; go_simp)
    clear hf
    refine hK _ _ (.inr (HKS.out _ BB.out)) ?_
    clear hK K
    try simp only [Act.put, List.setIfInBounds_toArray, List.set_cons_zero, List.set_cons_succ]
    refine butLast_one (i := 8) rfl (by kernel_rfl) (fun K hK => ?_)
    go_simp
    refine hK _ _ (.inr (HKS.out _ BB.out)) ?_
    clear hK K
    try simp only [Act.put, List.setIfInBounds_toArray, List.set_cons_zero, List.set_cons_succ]
    refine butLast_one (i := 9) rfl (by kernel_rfl) (fun K hK => ?_)
    go_simp
    refine hK _ _ (.inr (HKS.out _ BB.out)) ?_
    clear hK K
    try simp only [Act.put, List.setIfInBounds_toArray, List.set_cons_zero, List.set_cons_succ]
    refine butLast_one (i := 10) rfl (by kernel_rfl) (fun K hK => ?_)
    replace FZ := hidL (FZ.out.keep BB.out)
    have LZ := hidL FZ.out.val.1
    have LZf := hidL FZ.out.val.2
    simp only [List.getElem_toArray, List.getElem_cons_succ, List.getElem_cons_zero]
    rw [if_pos (by simp [Region.wanted])]
    with_reducible refine shNew_put (b := w.heap.size + 1) (zs := [.int .i64 0, .int .i64 0, .int .i64 0, .int .i64 0, .int .i64 0, .int .i64 0, .int .i64 0, .int .i64 0, .int .i64 0, .slice none 0 0, .int .i64 0, .int .i64 0, .int .i64 0, .int .i64 0, .int .i64 0, .int .i64 0, .int .i64 0, .int .i64 0, .int .i64 0, .int .i64 0, .int .i64 0, .int .i64 0, .slice none 0 0, .slice none 0 0, .slice none 0 0, .slice none 0 0]) (vs := [.int .i64 0, .int .i64 cb, .int .i64 cg, .int .i64 co, .int .i64 cn, .int .i64 ce, .int .i64 cf, .int .i64 ct, .int .i64 cc, .slice va n vc, .int .i64 ls, .int .i64 lc, .int .i64 lt, .int .i64 r1, .int .i64 r2, .int .i64 r3, .int .i64 r4, .int .i64 r5, .int .i64 0, .int .i64 0, .int .i64 cb, .int .i64 cg, .slice none 0 0, .slice none 0 0, .slice none 0 0, .slice none 0 0]) ?_ ?_ ?_ ?_ ?_ LZ.out LZf.out ?_
    · rfl
    · rfl
    · rfl
    · rfl
    · rfl
    refine hK _ _ (.inl rfl) ?_
    clear hK K
    try simp only [Act.put, List.setIfInBounds_toArray, List.set_cons_zero, List.set_cons_succ]
    refine butLast_end (by kernel_rfl) ?_
    have KE := hidL (K1.out.trans (BB.out.mono K1.out.size))
    have b0 := B0.out.size
    have s1 := S1.out
    clear HKS HS0 BA BB FB K1
    obtain ⟨VF, hVF⟩ : ∃ V, V = putAll w3 (w.heap.size + 1) 0 [.int .i64 0, .int .i64 cb, .int .i64 cg, .int .i64 co, .int .i64 cn, .int .i64 ce, .int .i64 cf, .int .i64 ct, .int .i64 cc, .slice va n vc, .int .i64 ls, .int .i64 lc, .int .i64 lt, .int .i64 r1, .int .i64 r2, .int .i64 r3, .int .i64 r4, .int .i64 r5, .int .i64 0, .int .i64 0, .int .i64 cb, .int .i64 cg, .slice none 0 0, .slice none 0 0, .slice none 0 0, .slice none 0 0] := ⟨_, rfl⟩
    rw [← hVF]
    have R : At (w.heap.size + 1) (w.heap.size + 1 + 1) (Bx (w.heap.size + 1) [.int .i64 0, .int .i64 cb, .int .i64 cg, .int .i64 co, .int .i64 cn, .int .i64 ce, .int .i64 cf, .int .i64 ct, .int .i64 cc, .slice va n vc, .int .i64 ls, .int .i64 lc, .int .i64 lt, .int .i64 r1, .int .i64 r2, .int .i64 r3, .int .i64 r4, .int .i64 r5, .int .i64 0, .int .i64 0, .int .i64 cb, .int .i64 cg, .slice none 0 0, .slice none 0 0, .slice none 0 0, .slice none 0 0]) VF := by rw [hVF]; exact Bx.putAll FZ.out [.int .i64 0, .int .i64 cb, .int .i64 cg, .int .i64 co, .int .i64 cn, .int .i64 ce, .int .i64 cf, .int .i64 ct, .int .i64 cc, .slice va n vc, .int .i64 ls, .int .i64 lc, .int .i64 lt, .int .i64 r1, .int .i64 r2, .int .i64 r3, .int .i64 r4, .int .i64 r5, .int .i64 0, .int .i64 0, .int .i64 cb, .int .i64 cg, .slice none 0 0, .slice none 0 0, .slice none 0 0, .slice none 0 0] rfl
    have KF : Below w.heap.size w VF := by rw [hVF]; exact below_putAll (by omega) [.int .i64 0, .int .i64 cb, .int .i64 cg, .int .i64 co, .int .i64 cn, .int .i64 ce, .int .i64 cf, .int .i64 ct, .int .i64 cc, .slice va n vc, .int .i64 ls, .int .i64 lc, .int .i64 lt, .int .i64 r1, .int .i64 r2, .int .i64 r3, .int .i64 r4, .int .i64 r5, .int .i64 0, .int .i64 0, .int .i64 cb, .int .i64 cg, .slice none 0 0, .slice none 0 0, .slice none 0 0, .slice none 0 0] 0 KE.out
    have E1 := At.putAll (X := w3) (b := w.heap.size + 1) (.inl (by omega)) [.int .i64 0, .int .i64 cb, .int .i64 cg, .int .i64 co, .int .i64 cn, .int .i64 ce, .int .i64 cf, .int .i64 ct, .int .i64 cc, .slice va n vc, .int .i64 ls, .int .i64 lc, .int .i64 lt, .int .i64 r1, .int .i64 r2, .int .i64 r3, .int .i64 r4, .int .i64 r5, .int .i64 0, .int .i64 0, .int .i64 cb, .int .i64 cg, .slice none 0 0, .slice none 0 0, .slice none 0 0, .slice none 0 0] 0 CA.out
    rw [← hVF] at E1
    have z1 := E1.le
    have ER := hidL (show At w.heap.size VF.heap.size (NL ns va n vc) VF from ⟨Nat.le_refl _, NL.dep _ _ _ _ _ _, E1.val.1, E1.val.2.wide (by omega) z1⟩)
    clear z1 E1
    have KF2 := hidL KF
    have R2 := hidL R
    clear hVF R KF
    go_wp2_with fail
    have RL := hidL R2.out.val.1
    refine bodyPost_ret (v := .agg #[.int .i64 0, .int .i64 cb, .int .i64 cg, .int .i64 co, .int .i64 cn, .int .i64 ce, .int .i64 cf, .int .i64 ct, .int .i64 cc, .slice va n vc, .int .i64 ls, .int .i64 lc, .int .i64 lt, .int .i64 r1, .int .i64 r2, .int .i64 r3, .int .i64 r4, .int .i64 r5, .int .i64 0, .int .i64 0, .int .i64 cb, .int .i64 cg, .slice none 0 0, .slice none 0 0, .slice none 0 0, .slice none 0 0]) ?_ rfl ⟨⟨va, n, vc, rfl, ER.out⟩, KF2.out⟩
    exact results_box (b := w.heap.size + 1) (vs := [.int .i64 0, .int .i64 cb, .int .i64 cg, .int .i64 co, .int .i64 cn, .int .i64 ce, .int .i64 cf, .int .i64 ct, .int .i64 cc, .slice va n vc, .int .i64 ls, .int .i64 lc, .int .i64 lt, .int .i64 r1, .int .i64 r2, .int .i64 r3, .int .i64 r4, .int .i64 r5, .int .i64 0, .int .i64 0, .int .i64 cb, .int .i64 cg, .slice none 0 0, .slice none 0 0, .slice none 0 0, .slice none 0 0]) Tryz.results16 Tryz.underlying54 shR_size rfl RL.out
  · simp only [shI_n c0, shL_n c0]
    go_enter Tryz.func16, Tryz.ntmps16
    go_upto_region 1 with fail
    rw [← HV.out]
    clear HV LZ LZf
    go_wp2_with (first | ((with_reducible refine cfgI_load (b := w.heap.size) (vs := [.int .i64 cb, .int .i64 cg, .int .i64 co, .int .i64 cn, .int .i64 ce, .int .i64 cf, .int .i64 ct, .int .i64 cc, .slice na n nc, .int .i64 ls, .int .i64 lc, .int .i64 lt, .int .i64 r1, .int .i64 r2, .int .i64 r3, .int .i64 r4, .int .i64 r5]) ?_ ?_ LB.out ?_); exact rfl; exact rfl))
    refine C1.out.mono ?_
    rintro e w1 ⟨rfl, hb⟩
    have K1 := hidL (KV.out.trans (hb.mono KV.out.size))
    replace FZ := hidL (FZ.out.keep hb)
    clear hb C1 C2 C3 KV LB FB SZ
    have LZ := hidL FZ.out.val.1
    have LZf := hidL FZ.out.val.2
    go_wp2_with (first | ((with_reducible refine shR_put (b := w.heap.size + 1) (zs := [.int .i64 0, .int .i64 0, .int .i64 0, .int .i64 0, .int .i64 0, .int .i64 0, .int .i64 0, .int .i64 0, .int .i64 0, .slice none 0 0, .int .i64 0, .int .i64 0, .int .i64 0, .int .i64 0, .int .i64 0, .int .i64 0, .int .i64 0, .int .i64 0, .int .i64 0, .int .i64 0, .int .i64 0, .int .i64 0, .slice none 0 0, .slice none 0 0, .slice none 0 0, .slice none 0 0]) (vs := [.int .i64 c, .int .i64 0, .int .i64 0, .int .i64 0, .int .i64 0, .int .i64 0, .int .i64 0, .int .i64 0, .int .i64 0, .slice none 0 0, .int .i64 0, .int .i64 0, .int .i64 0, .int .i64 0, .int .i64 0, .int .i64 0, .int .i64 0, .int .i64 0, .int .i64 0, .int .i64 0, .int .i64 0, .int .i64 0, .slice none 0 0, .slice none 0 0, .slice none 0 0, .slice none 0 0]) ?_ ?_ ?_ ?_ ?_ LZ.out LZf.out ?_); exact rfl; exact rfl; exact rfl; exact rfl; exact rfl))
    obtain ⟨VF, hVF⟩ : ∃ V, V = putAll w1 (w.heap.size + 1) 0 [.int .i64 c, .int .i64 0, .int .i64 0, .int .i64 0, .int .i64 0, .int .i64 0, .int .i64 0, .int .i64 0, .int .i64 0, .slice none 0 0, .int .i64 0, .int .i64 0, .int .i64 0, .int .i64 0, .int .i64 0, .int .i64 0, .int .i64 0, .int .i64 0, .int .i64 0, .int .i64 0, .int .i64 0, .int .i64 0, .slice none 0 0, .slice none 0 0, .slice none 0 0, .slice none 0 0] := ⟨_, rfl⟩
    rw [← hVF]
    have R : At (w.heap.size + 1) (w.heap.size + 1 + 1) (Bx (w.heap.size + 1) [.int .i64 c, .int .i64 0, .int .i64 0, .int .i64 0, .int .i64 0, .int .i64 0, .int .i64 0, .int .i64 0, .int .i64 0, .slice none 0 0, .int .i64 0, .int .i64 0, .int .i64 0, .int .i64 0, .int .i64 0, .int .i64 0, .int .i64 0, .int .i64 0, .int .i64 0, .int .i64 0, .int .i64 0, .int .i64 0, .slice none 0 0, .slice none 0 0, .slice none 0 0, .slice none 0 0]) VF := by rw [hVF]; exact Bx.putAll FZ.out [.int .i64 c, .int .i64 0, .int .i64 0, .int .i64 0, .int .i64 0, .int .i64 0, .int .i64 0, .int .i64 0, .int .i64 0, .slice none 0 0, .int .i64 0, .int .i64 0, .int .i64 0, .int .i64 0, .int .i64 0, .int .i64 0, .int .i64 0, .int .i64 0, .int .i64 0, .int .i64 0, .int .i64 0, .int .i64 0, .slice none 0 0, .slice none 0 0, .slice none 0 0, .slice none 0 0] rfl
    have KF : Below w.heap.size w VF := by rw [hVF]; exact below_putAll (by omega) [.int .i64 c, .int .i64 0, .int .i64 0, .int .i64 0, .int .i64 0, .int .i64 0, .int .i64 0, .int .i64 0, .int .i64 0, .slice none 0 0, .int .i64 0, .int .i64 0, .int .i64 0, .int .i64 0, .int .i64 0, .int .i64 0, .int .i64 0, .int .i64 0, .int .i64 0, .int .i64 0, .int .i64 0, .int .i64 0, .slice none 0 0, .slice none 0 0, .slice none 0 0, .slice none 0 0] 0 K1.out
    have ER := hidL (show At w.heap.size VF.heap.size (NL [] none 0 0) VF from ⟨Nat.le_refl _, NL.dep _ _ _ _ _ _, rfl, .inl ⟨rfl, rfl⟩, fun b h => by cases h⟩)
    have KF2 := hidL KF
    have R2 := hidL R
    clear hVF R KF
    have RL := hidL R2.out.val.1
    refine bodyPost_ret (v := .agg #[.int .i64 c, .int .i64 0, .int .i64 0, .int .i64 0, .int .i64 0, .int .i64 0, .int .i64 0, .int .i64 0, .int .i64 0, .slice none 0 0, .int .i64 0, .int .i64 0, .int .i64 0, .int .i64 0, .int .i64 0, .int .i64 0, .int .i64 0, .int .i64 0, .int .i64 0, .int .i64 0, .int .i64 0, .int .i64 0, .slice none 0 0, .slice none 0 0, .slice none 0 0, .slice none 0 0]) ?_ rfl ⟨⟨none, 0, 0, rfl, ER.out⟩, KF2.out⟩
    exact results_box (b := w.heap.size + 1) (vs := [.int .i64 c, .int .i64 0, .int .i64 0, .int .i64 0, .int .i64 0, .int .i64 0, .int .i64 0, .int .i64 0, .int .i64 0, .slice none 0 0, .int .i64 0, .int .i64 0, .int .i64 0, .int .i64 0, .int .i64 0, .int .i64 0, .int .i64 0, .int .i64 0, .int .i64 0, .int .i64 0, .int .i64 0, .int .i64 0, .slice none 0 0, .slice none 0 0, .slice none 0 0, .slice none 0 0]) Tryz.results16 Tryz.underlying54 shR_size rfl RL.out
end Go.Proofs.YtlbagfaiiileoaaGreatDoor
/-
  The law of NewShield.
-/
namespace Go.Proofs.YtlbagfaiiileoaaGreatDoor
open Go.ChangeShapes Go.WideShapes Go.ChangeAt Go.RowKit Go.Sort
theorem shMarkTM {X : World} {B lo hi k : Nat} {l : List ByteArray} (hk0 : 1 ≤ k) (hk : k ≤ 100000000000000) (hl : l.length ≤ 1048576) (c : At lo hi (TM B l) X) (base : Nat) (hb : base ≤ B) :
    Calls Tryz.prog 65 #[.slice (some ⟨B, 0, none⟩) l.length l.length, .int .i64 (k : Int)] X fun e w' => e = .returned (.int .i64 ((k + l.length : Nat) : Int)) ∧ Wi B (B + 1) X w' ∧ Below base X w' :=
  (markTS_row X B l.length l.length k hl hk0 hk c.val.1.lt (fun j hj => ⟨⟨_, by have := c.val.1.at0 j l[j] (List.getElem?_eq_getElem hj); rwa [Nat.zero_add] at this⟩, c.val.1.free j hj⟩)).mono fun _ _ ⟨h1, h3, h4⟩ =>
    ⟨h1, ⟨h3.size, fun b o hb hd => h3.cell b o hb (by omega), fun b o hb hd => h3.frozen b o hb (by omega)⟩, h4.mono hb⟩
set_option maxRecDepth 100000 in
set_option maxHeartbeats 4000000 in
theorem cfgMk (w : World) (cb cg co cn ce cf ct cc : Int) (ns : List ByteArray) (ls lc lt r1 r2 r3 r4 r5 : Int) (G lo hi base : Nat) (hL : ns.length ≤ 1048576) (c : At lo hi (Wide (TM G ns)) w) (hb : base ≤ lo) :
    Calls Tryz.prog 19 #[.agg #[.int .i64 cb, .int .i64 cg, .int .i64 co, .int .i64 cn, .int .i64 ce, .int .i64 cf, .int .i64 ct, .int .i64 cc, .slice (some ⟨G, 0, none⟩) ns.length ns.length, .int .i64 ls, .int .i64 lc, .int .i64 lt, .int .i64 r1, .int .i64 r2, .int .i64 r3, .int .i64 r4, .int .i64 r5], .int .i64 1] w fun e w' => e = .returned (.int .i64 ((1 + ns.length : Nat) : Int)) ∧ Wi lo hi w w' ∧ Below base w w' := by
  obtain ⟨V, hV⟩ : ∃ V, V = w.alloc (.cells #[.int .i64 cb, .int .i64 cg, .int .i64 co, .int .i64 cn, .int .i64 ce, .int .i64 cf, .int .i64 ct, .int .i64 cc, .slice (some ⟨G, 0, none⟩) ns.length ns.length, .int .i64 ls, .int .i64 lc, .int .i64 lt, .int .i64 r1, .int .i64 r2, .int .i64 r3, .int .i64 r4, .int .i64 r5] 41) := ⟨_, rfl⟩
  have HV : Hid (V = w.alloc (.cells #[.int .i64 cb, .int .i64 cg, .int .i64 co, .int .i64 cn, .int .i64 ce, .int .i64 cf, .int .i64 ct, .int .i64 cc, .slice (some ⟨G, 0, none⟩) ns.length ns.length, .int .i64 ls, .int .i64 lc, .int .i64 lt, .int .i64 r1, .int .i64 r2, .int .i64 r3, .int .i64 r4, .int .i64 r5] 41)) := hV
  have bV : Below w.heap.size w V := by rw [hV]; exact (Below.refl _ _).alloc (Nat.le_refl _) _
  have F1 := hidL (show At w.heap.size (w.heap.size + 1) (Bx w.heap.size [.int .i64 cb, .int .i64 cg, .int .i64 co, .int .i64 cn, .int .i64 ce, .int .i64 cf, .int .i64 ct, .int .i64 cc, .slice (some ⟨G, 0, none⟩) ns.length ns.length, .int .i64 ls, .int .i64 lc, .int .i64 lt, .int .i64 r1, .int .i64 r2, .int .i64 r3, .int .i64 r4, .int .i64 r5]) V by rw [hV]; exact Bx.new _ [.int .i64 cb, .int .i64 cg, .int .i64 co, .int .i64 cn, .int .i64 ce, .int .i64 cf, .int .i64 ct, .int .i64 cc, .slice (some ⟨G, 0, none⟩) ns.length ns.length, .int .i64 ls, .int .i64 lc, .int .i64 lt, .int .i64 r1, .int .i64 r2, .int .i64 r3, .int .i64 r4, .int .i64 r5] _)
  obtain ⟨l1, h1, o1, o2, o3, k⟩ := c.val
  have C1 : Hid (Calls Tryz.prog 65 #[.slice (some ⟨G, 0, none⟩) ns.length ns.length, .int .i64 1] V fun e w' => e = .returned (.int .i64 ((1 + ns.length : Nat) : Int)) ∧ Wi lo hi w w' ∧ Below base w w') := by
    have g1 := k.val.2
    have g2 := c.le
    have := shMarkTM (k := 1) (by omega) (by omega) hL (k.keep bV) base (by omega)
    exact this.mono fun e w1 ⟨he, h2, h3⟩ => ⟨he, (Wi.of (lo := lo) (hi := hi) bV).trans (h2.wide (by omega) (by omega)), (bV.mono (by omega)).trans h3⟩
  have p8 := F1.out.val.1 8 _ rfl
  clear c hb hL bV hV F1 k o1 o2 o3
  generalize ((1 + ns.length : Nat) : Int) = q at *
  generalize ns.length = n at *
  go_enter Tryz.func19, Tryz.ntmps19
  go_upto_region 1 with fail
  rw [← HV.out]
  clear HV
  go_wp2_with fail
  refine C1.out.mono ?_
  rintro e w1 ⟨rfl, hk⟩
  have K := hidL hk
  clear hk C1 p8
  go_wp2_with fail
  go_ret
  exact ⟨rfl, K.out⟩
theorem shL_len (c : Int) {n : Nat} (l : List ByteArray) (h : l.length ≤ n) : (shL c l).length ≤ n := by
  unfold shL
  split
  · exact h
  · simp
set_option maxHeartbeats 4000000 in
theorem lawNewShield (w : World) (cb cg co cn ce cf ct cc : Int) (na : Option Addr) (nc : Nat) (ns : List ByteArray) (ls lc lt r1 r2 r3 r4 r5 : Int) (hset : SetIs w) (hl : ns.length ≤ maxLen) (hz : ∀ x ∈ ns, x.size ≤ maxLen) (hi : TIn w na ns) :
    Calls Tryz.prog 4 #[.agg #[.int .i64 cb, .int .i64 cg, .int .i64 co, .int .i64 cn, .int .i64 ce, .int .i64 cf, .int .i64 ct, .int .i64 cc, .slice na ns.length nc, .int .i64 ls, .int .i64 lc, .int .i64 lt, .int .i64 r1, .int .i64 r2, .int .i64 r3, .int .i64 r4, .int .i64 r5]] w fun e w' => e = .returned (.bool true) ∧ Below w.heap.size w w' := by
  have sr : ¬ szTL 1048576 ns < 0 → ns.length ≤ 1048576 := fun h => (szTL_room (by omega) h).1
  have sr2 : ¬ szTL 1048576 ns < 0 → ∀ r ∈ ns, r.size ≤ 1048576 := fun h => (szTL_room (by omega) h).2
  have sl : ¬ szTL 1048576 ns < 0 → (shL (cfgC cb cg co cn ce cf ct cc ns ls lc lt r1 r2 r3 r4 r5) ns).length ≤ 1048576 := fun h => shL_len _ _ (sr h)
  refine walk_NewSh w cb cg co cn ce cf ct cc na ns.length nc ls lc lt r1 r2 r3 r4 r5 (cfgC cb cg co cn ce cf ct cc ns ls lc lt r1 r2 r3 r4 r5) (shI (cfgC cb cg co cn ce cf ct cc ns ls lc lt r1 r2 r3 r4 r5) cb) (shI (cfgC cb cg co cn ce cf ct cc ns ls lc lt r1 r2 r3 r4 r5) cg) (shI (cfgC cb cg co cn ce cf ct cc ns ls lc lt r1 r2 r3 r4 r5) co) (shI (cfgC cb cg co cn ce cf ct cc ns ls lc lt r1 r2 r3 r4 r5) cn) (shI (cfgC cb cg co cn ce cf ct cc ns ls lc lt r1 r2 r3 r4 r5) ce) (shI (cfgC cb cg co cn ce cf ct cc ns ls lc lt r1 r2 r3 r4 r5) cf) (shI (cfgC cb cg co cn ce cf ct cc ns ls lc lt r1 r2 r3 r4 r5) ct) (shI (cfgC cb cg co cn ce cf ct cc ns ls lc lt r1 r2 r3 r4 r5) cc) (shI (cfgC cb cg co cn ce cf ct cc ns ls lc lt r1 r2 r3 r4 r5) ls) (shI (cfgC cb cg co cn ce cf ct cc ns ls lc lt r1 r2 r3 r4 r5) lc) (shI (cfgC cb cg co cn ce cf ct cc ns ls lc lt r1 r2 r3 r4 r5) lt) (shI (cfgC cb cg co cn ce cf ct cc ns ls lc lt r1 r2 r3 r4 r5) r1) (shI (cfgC cb cg co cn ce cf ct cc ns ls lc lt r1 r2 r3 r4 r5) r2) (shI (cfgC cb cg co cn ce cf ct cc ns ls lc lt r1 r2 r3 r4 r5) r3) (shI (cfgC cb cg co cn ce cf ct cc ns ls lc lt r1 r2 r3 r4 r5) r4) (shI (cfgC cb cg co cn ce cf ct cc ns ls lc lt r1 r2 r3 r4 r5) r5) (shI (cfgC cb cg co cn ce cf ct cc ns ls lc lt r1 r2 r3 r4 r5) cb) (shI (cfgC cb cg co cn ce cf ct cc ns ls lc lt r1 r2 r3 r4 r5) cg) (szTL 1048576 ns) (fun G => Wide (TM G ns)) (NL (shL (cfgC cb cg co cn ce cf ct cc ns ls lc lt r1 r2 r3 r4 r5) ns)) (NLm (shL (cfgC cb cg co cn ce cf ct cc ns ls lc lt r1 r2 r3 r4 r5) ns)) ((1 + ns.length : Nat) : Int) ((1 + (shL (cfgC cb cg co cn ce cf ct cc ns ls lc lt r1 r2 r3 r4 r5) ns).length : Nat) : Int) ?_ ?_ ?_ ?_ ?_ ?_ ?_ ?_ ?_ ?_ ?_
  · exact fun X hX => szConfig_any X cb cg co cn ce cf ct cc na nc ns ls lc lt r1 r2 r3 r4 r5 hl (hi.keep hX) hz 1048576 (by omega) (by omega)
  · exact fun h1 X hX => cfgT w cb cg co cn ce cf ct cc na nc ns ls lc lt r1 r2 r3 r4 r5 (sr h1) hi X hX
  · exact fun h1 X la ha lb hb Gx Gy c d => cfgQ cb cg co cn ce cf ct cc ns ls lc lt r1 r2 r3 r4 r5 (sr h1) X la ha lb hb Gx Gy c d
  · exact fun h1 X l h G c hb => cfgMk X cb cg co cn ce cf ct cc ns ls lc lt r1 r2 r3 r4 r5 G l h w.heap.size (sr h1) c hb
  · exact fun h1 X l h G _ c => (fun ⟨_, _, _, _, _, k⟩ => specNewSh_any X cb cg co cn ce cf ct cc (some ⟨G, 0, none⟩) ns.length ns ls lc lt r1 r2 r3 r4 r5 (sr h1) k.val.in) c.val
  · exact fun h1 X l h G hX c => (fun ⟨_, _, _, _, _, k⟩ => implNewSh_any X cb cg co cn ce cf ct cc (some ⟨G, 0, none⟩) ns.length ns ls lc lt r1 r2 r3 r4 r5 (sr h1) (sr2 h1) (hset.below hX) k.val.in) c.val
  · intro h1 X la ha lb hb xa xn xk ya yn yk c d
    obtain ⟨rfl, a⟩ := c.val
    obtain ⟨rfl, b⟩ := d.val
    exact shR_Q _ _ _ _ _ _ _ _ _ _ _ _ _ _ _ _ _ _ _ _ xa xk ya yk (sl h1) X (a.in rfl).2 (b.in rfl).2
  · intro h1 X l h ra rn rk hX c hb
    have e := c.val.1
    exact (shR_M X _ _ _ _ _ _ _ _ _ _ _ _ _ _ _ _ _ _ _ (shL (cfgC cb cg co cn ce cf ct cc ns ls lc lt r1 r2 r3 r4 r5) ns) ra rn rk l h w.heap.size e (sl h1) ⟨c.le, TL.dep _ _ _ _, c.val.2⟩ hb hX.size).mono fun _ _ ⟨h2, h3, h4, h5⟩ => ⟨by rw [h2, e], ⟨h3.le, NLm.dep _ _ _ _ _ _, e, h3.val⟩, h4, h5⟩
  · intro h1 X l h ra rn rk c
    have e := c.val.1
    exact (shR_H X _ _ _ _ _ _ _ _ _ _ _ _ _ _ _ _ _ _ _ ra rn rk l h (by rw [e]; exact sl h1) ⟨c.le, TL.dep _ _ _ _, c.val.2⟩).mono fun _ _ ⟨h2, h3⟩ => ⟨by rw [h2, e], h3⟩
  · omega
  · omega
end Go.Proofs.YtlbagfaiiileoaaGreatDoor
