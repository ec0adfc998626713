/-
  Texts of one claim, one behind the other.
-/
import Derived.Deep.RegionHeld3
import Derived.Test.YtjfjfhoihhmbgaaGreatDoorMgF
/-
  6 cells that may be written.
-/
namespace Go.Proofs.YtjfjfhoihhmbgaaGreatDoor
open Go.ChangeShapes Go.WideShapes Go.ChangeAt Go.RowKit
structure S6 (w : World) (b : Nat) (v0 v1 v2 v3 v4 v5 : Value) : Prop where
  c0 : w.cell? ⟨b, 0, none⟩ = some v0
  c1 : w.cell? ⟨b, 1, none⟩ = some v1
  c2 : w.cell? ⟨b, 2, none⟩ = some v2
  c3 : w.cell? ⟨b, 3, none⟩ = some v3
  c4 : w.cell? ⟨b, 4, none⟩ = some v4
  c5 : w.cell? ⟨b, 5, none⟩ = some v5
  fr : ∀ o, w.frozen? ⟨b, o, none⟩ = false
  lt : b < w.heap.size
section
variable {w w' : World} {b : Nat} {v0 v1 v2 v3 v4 v5 : Value}
theorem S6.keep (k : S6 w b v0 v1 v2 v3 v4 v5) (hb : Below w.heap.size w w') : S6 w' b v0 v1 v2 v3 v4 v5 :=
  ⟨by rw [hb.cell (p := ⟨b, 0, none⟩) k.lt]; exact k.c0, by rw [hb.cell (p := ⟨b, 1, none⟩) k.lt]; exact k.c1, by rw [hb.cell (p := ⟨b, 2, none⟩) k.lt]; exact k.c2, by rw [hb.cell (p := ⟨b, 3, none⟩) k.lt]; exact k.c3, by rw [hb.cell (p := ⟨b, 4, none⟩) k.lt]; exact k.c4, by rw [hb.cell (p := ⟨b, 5, none⟩) k.lt]; exact k.c5, fun o => by rw [hb.frozen (p := ⟨b, o, none⟩) k.lt]; exact k.fr o, Nat.lt_of_lt_of_le k.lt hb.size⟩
theorem S6.low (k : S6 w b v0 v1 v2 v3 v4 v5) {B : Nat} (hb : Below B w w') (h : b < B) : S6 w' b v0 v1 v2 v3 v4 v5 :=
  ⟨by rw [hb.cell (p := ⟨b, 0, none⟩) h]; exact k.c0, by rw [hb.cell (p := ⟨b, 1, none⟩) h]; exact k.c1, by rw [hb.cell (p := ⟨b, 2, none⟩) h]; exact k.c2, by rw [hb.cell (p := ⟨b, 3, none⟩) h]; exact k.c3, by rw [hb.cell (p := ⟨b, 4, none⟩) h]; exact k.c4, by rw [hb.cell (p := ⟨b, 5, none⟩) h]; exact k.c5, fun o => by rw [hb.frozen (p := ⟨b, o, none⟩) h]; exact k.fr o, Nat.lt_of_lt_of_le k.lt hb.size⟩
theorem S6.new (w : World) (v0 v1 v2 v3 v4 v5 : Value) (t : TypeId) : S6 (w.alloc (.cells #[v0, v1, v2, v3, v4, v5] t)) w.heap.size v0 v1 v2 v3 v4 v5 := ⟨by simp, by simp, by simp, by simp, by simp, by simp, fun o => by simp, by simp⟩
theorem S6.off (k : S6 w b v0 v1 v2 v3 v4 v5) {B i : Nat} {x : Value} (h : B ≠ b) : S6 (w.setCell ⟨B, i, none⟩ x) b v0 v1 v2 v3 v4 v5 := by
  have ne : ∀ o : Nat, (⟨B, i, none⟩ : Addr) ≠ ⟨b, o, none⟩ := fun o q => h (congrArg Addr.block q)
  exact ⟨by rw [World.cell?_setCell_other _ _ _ _ (ne _)]; exact k.c0, by rw [World.cell?_setCell_other _ _ _ _ (ne _)]; exact k.c1, by rw [World.cell?_setCell_other _ _ _ _ (ne _)]; exact k.c2, by rw [World.cell?_setCell_other _ _ _ _ (ne _)]; exact k.c3, by rw [World.cell?_setCell_other _ _ _ _ (ne _)]; exact k.c4, by rw [World.cell?_setCell_other _ _ _ _ (ne _)]; exact k.c5, fun o => by rw [World.frozen?_setCell]; exact k.fr o, by simpa using k.lt⟩
theorem S6.above {hi : Nat} (k : S6 w b v0 v1 v2 v3 v4 v5) (h : Above hi w w') (hb : hi ≤ b) : S6 w' b v0 v1 v2 v3 v4 v5 :=
  ⟨by rw [h.cell b 0 hb k.lt]; exact k.c0, by rw [h.cell b 1 hb k.lt]; exact k.c1, by rw [h.cell b 2 hb k.lt]; exact k.c2, by rw [h.cell b 3 hb k.lt]; exact k.c3, by rw [h.cell b 4 hb k.lt]; exact k.c4, by rw [h.cell b 5 hb k.lt]; exact k.c5, fun o => by rw [h.frozen b o hb k.lt]; exact k.fr o, Nat.lt_of_lt_of_le k.lt h.size⟩
end
end Go.Proofs.YtjfjfhoihhmbgaaGreatDoor
/-
  Answers that bear a store and texts: where they lie.
-/
namespace Go.Proofs.YtjfjfhoihhmbgaaGreatDoor
open Go.ChangeShapes Go.WideShapes Go.ChangeAt Go.RowKit Go.Sort
structure QR where
  s : SR
  a3 : Option Addr
  k3 : Nat
  n3 : Nat
def QR.v (r : QR) : Value := .slice r.a3 r.n3 r.k3
def QIn (W : World) (r : QR) (L1 L2 : List Ent) (G : List ByteArray) : Prop := RIn W r.s L1 L2 ∧ TLV W r.v G
def QSto (W : World) (base hi : Nat) (r : QR) (L1 L2 : List Ent) (G : List ByteArray) : Prop := ∃ m1 m2, m1.map Prod.fst = L1 ∧ m2.map Prod.fst = L2 ∧ StoLV W base r.s.t r.s.k m1 m2 ∧ (∀ b ∈ fp r.s.t m1 ++ fp r.s.k m2, b < hi) ∧ TLV W r.v G ∧ (∀ b, r.v.ownBlock = some b → base ≤ b ∧ b < hi ∧ b ∉ fp r.s.t m1 ∧ b ∉ fp r.s.k m2)
def QHeld (W : World) (r : QR) (L1 L2 : List Ent) (G : List ByteArray) : Prop := RHeld W r.s L1 L2 ∧ TLV W r.v (mkTL (nStoE L1 L2) G.length)
theorem QIn.keep {W W' : World} {r : QR} {L1 L2 : List Ent} {G : List ByteArray} (h : QIn W r L1 L2 G) (hb : Below W.heap.size W W') : QIn W' r L1 L2 G := ⟨h.1.keep hb, h.2.below hb⟩
theorem QSto.below {W W' : World} {base hi : Nat} {r : QR} {L1 L2 : List Ent} {G : List ByteArray} (h : QSto W base hi r L1 L2 G) (hb : Below W.heap.size W W') : QSto W' base hi r L1 L2 G := by
  obtain ⟨m1, m2, e1, e2, h1, h2, h3, h4⟩ := h
  exact ⟨m1, m2, e1, e2, h1.below hb, h2, h3.below hb, h4⟩
theorem QSto.above {W W' : World} {h0 base hi : Nat} {r : QR} {L1 L2 : List Ent} {G : List ByteArray} (h : QSto W base hi r L1 L2 G) (ha : Above h0 W W') (hb : h0 ≤ base) : QSto W' base hi r L1 L2 G := by
  obtain ⟨m1, m2, e1, e2, h1, h2, h3, h4⟩ := h
  exact ⟨m1, m2, e1, e2, h1.above ha hb, h2, h3.out (.of_above ha) (fun b e => by have := (h4 b e).1; simp; omega), h4⟩
theorem QHeld.below {W W' : World} {r : QR} {L1 L2 : List Ent} {G : List ByteArray} (h : QHeld W r L1 L2 G) (hb : Below W.heap.size W W') : QHeld W' r L1 L2 G := ⟨h.1.below hb, h.2.below hb⟩
theorem QSto.in {W : World} {base hi : Nat} {r : QR} {L1 L2 : List Ent} {G : List ByteArray} (h : QSto W base hi r L1 L2 G) : QIn W r L1 L2 G := by
  obtain ⟨m1, m2, e1, e2, h1, h2, h3, h4⟩ := h
  exact ⟨RSto.in (base := base) (hi := hi) ⟨m1, m2, e1, e2, h1, h2⟩, h3⟩
theorem QSto.mk {W : World} {base : Nat} {r : QR} {L1 L2 : List Ent} {G : List ByteArray} {m1 m2 : List (Ent × EntR)} (e1 : m1.map Prod.fst = L1) (e2 : m2.map Prod.fst = L2) (h : StoLV W base r.s.t r.s.k m1 m2) (ht : TLV W r.v G) (hn : ∀ b, r.v.ownBlock = some b → base ≤ b ∧ b ∉ fp r.s.t m1 ∧ b ∉ fp r.s.k m2) : QSto W base W.heap.size r L1 L2 G :=
  ⟨m1, m2, e1, e2, h, fun b hb => by
    rcases List.mem_append.1 hb with hb | hb
    · exact h.t.lt hb
    · exact h.k.lt hb, ht, fun b e => ⟨(hn b e).1, ht.block_lt b e, (hn b e).2.1, (hn b e).2.2⟩⟩
def nPurE (L1 L2 : List Ent) (G : List ByteArray) : Nat := nStoE L1 L2 + G.length
/-- A store and texts that are handed back, with their code. -/
structure QAns where
  c : Int
  bu : Int
  gu : Int
  t : List Ent
  k : List Ent
  g : List ByteArray
def PurAns (A : QAns) (base : Nat) (e : Ending) (w' : World) : Prop := ∃ r : QR, e = .returned (.agg #[.int .i64 A.c, .int .i64 A.bu, .int .i64 A.gu, .slice r.s.a1 r.s.n1 r.s.k1, .slice r.s.a2 r.s.n2 r.s.k2, .slice r.a3 r.n3 r.k3]) ∧ QSto w' base w'.heap.size r A.t A.k A.g
def badQ (c : Int) : QAns := ⟨c, 0, 0, [], [], []⟩
theorem PurAns.of {A B : QAns} {base : Nat} {e : Ending} {w' : World} (h : PurAns B base e w') (he : A = B) : PurAns A base e w' := he ▸ h
theorem PurAns.got {c bu gu : Int} {t k : List Ent} {G : List ByteArray} {base b : Nat} {a1 a2 a3 : Option Addr} {n1 k1 n2 k2 n3 k3 : Nat} {w' : World} {m1 m2 : List (Ent × EntR)} (h : StoLV w' b (.slice a1 n1 k1) (.slice a2 n2 k2) m1 m2) (hb : base ≤ b) (e1 : m1.map Prod.fst = t) (e2 : m2.map Prod.fst = k) (ht : TLV w' (.slice a3 n3 k3) G) (hn : ∀ q, (Value.slice a3 n3 k3).ownBlock = some q → base ≤ q ∧ q ∉ fp (.slice a1 n1 k1) m1 ∧ q ∉ fp (.slice a2 n2 k2) m2) : PurAns ⟨c, bu, gu, t, k, G⟩ base (.returned (.agg #[.int .i64 c, .int .i64 bu, .int .i64 gu, .slice a1 n1 k1, .slice a2 n2 k2, .slice a3 n3 k3])) w' :=
  ⟨⟨⟨a1, k1, n1, a2, k2, n2⟩, a3, k3, n3⟩, rfl, QSto.mk (r := ⟨⟨a1, k1, n1, a2, k2, n2⟩, a3, k3, n3⟩) e1 e2 (h.lower hb) ht hn⟩
theorem PurAns.bad (c : Int) (base : Nat) (w' : World) : PurAns (badQ c) base (.returned (.agg #[.int .i64 c, .int .i64 0, .int .i64 0, .slice none 0 0, .slice none 0 0, .slice none 0 0])) w' := PurAns.got (StoLV.none w' base) (Nat.le_refl _) rfl rfl (.inl ⟨rfl, rfl⟩) (fun q e => by cases e)
end Go.Proofs.YtjfjfhoihhmbgaaGreatDoor
/-
  Purges, by the model: entries turned, entries taken out.
-/
namespace Go.Proofs.YtjfjfhoihhmbgaaGreatDoor
open Go.ChangeShapes Go.WideShapes Go.ChangeAt Go.RowKit Go.Sort
def softE (x : Ent) : Ent := { x with b1 := true }
def inK (ks : List ByteArray) (x : Ent) : Bool := tagB ks x.key
set_option maxRecDepth 100000 in
set_option maxHeartbeats 8000000 in
theorem l9Soft_o (w : World) (base G cap : Nat) (a : Option Addr) (kc : Nat) (ks : List ByteArray) (m : List (Ent × EntR)) (hm : m.length ≤ 1000) (hks : ks.length ≤ 1000) (h : EntsLV w base (.slice (some ⟨G, 0, none⟩) m.length cap) m) (hbs : base ≤ w.heap.size) (hk : ∀ X, Below base w X → TIn X a ks) :
    Calls Tryz.prog 194 #[.slice (some ⟨G, 0, none⟩) m.length cap, .slice a ks.length kc] w fun e w' => e = .returned (.tuple #[]) ∧ EntsLV w' base (.slice (some ⟨G, 0, none⟩) m.length cap) (turnM (inK ks) softE m) ∧ Out [G] w w' ∧ Below base w w' := by
  have HK : Hid (∀ X, Below base w X → TIn X a ks) := hk
  have HBS : Hid (base ≤ w.heap.size) := hbs
  obtain ⟨n, hn0⟩ : ∃ n, m.length = n := ⟨_, rfl⟩
  rw [hn0] at hm h ⊢
  have HN : Hid (m.length = n) := hn0
  have HST : Hid (EntsLV w base (.slice (some ⟨G, 0, none⟩) n cap) m) := h
  obtain ⟨kn, hkn⟩ : ∃ n, ks.length = n := ⟨_, rfl⟩
  have HKN : Hid (ks.length = kn) := hkn
  rw [hkn] at hks ⊢
  clear hn0 h hk hbs hkn
  go_enter Tryz.func194, Tryz.ntmps194
  go_wp2_with fail
  go_loopw [4] (fun i wr => ∃ A B : List (Ent × EntR), m = A ++ B ∧ i = .int .i64 (A.length : Int) ∧ EntsLV wr base (.slice (some ⟨G, 0, none⟩) n cap) (turnM (inK ks) softE A ++ B) ∧ Out [G] w wr ∧ Below base w wr) (fun i _ => n - (intOf i).toNat)
  case atStart => exact ⟨[], m, rfl, rfl, HST.out, Out.refl _ _, Below.refl _ _⟩
  case round =>
    obtain ⟨A, B, hAB, rfl, ho, hout, hb⟩ := hrel
    clear HST
    obtain ⟨k, hk⟩ : ∃ k, A.length = k := ⟨_, rfl⟩
    have hlen : n = k + B.length := by have := HN.out; rw [hAB, List.length_append] at this; omega
    rw [hk]
    cases B with
    | cons q B =>
      obtain ⟨x, r⟩ := q
      simp only [List.length_cons] at hlen
      have hkn : k < n := by omega
      clear hlen
      have hkA : (turnM (inK ks) softE A).length = k := by rw [turnM_len, hk]
      have cells := ho.at.2.2.2.2.1 k (x, r) (by rw [← hkA]; exact mid_eq _ _ _)
      have c0 : wr.cell? ⟨G, k * 13, none⟩ = some (.string x.key) := cells 0 (by omega)
      have c9 : wr.cell? ⟨G, k * 13 + 9, none⟩ = some (.bool x.b1) := cells 9 (by omega)
      have fz := ho.at.2.2.2.2.2 (k * 13 + 9)
      have CT : Hid (Calls Tryz.prog 163 #[.slice a kn kc, .string x.key] wr fun e w' => e = .returned (.bool (inK ks x)) ∧ w' = wr) := by
        have := specTagged_any wr a kc ks x.key (by have := HKN.out; omega) (HK.out wr hb)
        rw [HKN.out] at this
        exact this
      have gk : (k : Int) < n := by omega
      have gk0 : (0 : Int) ≤ k := by omega
      have HQ : Hid (m = A ++ (x, r) :: B ∧ A.length = k ∧ EntsLV wr base (.slice (some ⟨G, 0, none⟩) n cap) (turnM (inK ks) softE A ++ (x, r) :: B) ∧ Out [G] w wr ∧ Below base w wr ∧ base ≤ G) := ⟨hAB, hk, ho, hout, hb, ho.at.2.2.1⟩
      clear hAB hk ho hout hb cells hkA
      have tapp : turnM (inK ks) softE (A ++ [(x, r)]) = turnM (inK ks) softE A ++ [(if inK ks x then softE x else x, r)] := by unfold turnM; rw [List.map_append]; rfl
      cases he : inK ks x
      · rw [he] at CT tapp
        have HA : Hid (m = (A ++ [(x, r)]) ++ B ∧ (A ++ [(x, r)]).length = k + 1 ∧ EntsLV wr base (.slice (some ⟨G, 0, none⟩) n cap) (turnM (inK ks) softE (A ++ [(x, r)]) ++ B) ∧ Out [G] w wr ∧ Below base w wr) := by
          obtain ⟨h1, h2, h3, h4, h5, _⟩ := HQ.out
          refine ⟨by rw [h1]; simp, by simp [h2], ?_, h4, h5⟩
          rw [tapp]
          simpa using h3
        clear HQ he tapp c9 fz
        generalize x.key = xk at *
        go_wp2_with fail
        refine CT.out.mono ?_
        rintro e w2 ⟨rfl, rfl⟩
        clear CT
        go_wp2_with fail
        go_roundw
        case rel => exact ⟨A ++ [(x, r)], B, HA.out.1, by rw [HA.out.2.1]; go_num, HA.out.2.2.1, HA.out.2.2.2.1, HA.out.2.2.2.2⟩
        case measure => simp [intOf]; omega
      · rw [he] at CT tapp
        have HA : Hid (m = (A ++ [(x, r)]) ++ B ∧ (A ++ [(x, r)]).length = k + 1 ∧ EntsLV (wr.setCell ⟨G, k * 13 + 9, none⟩ (.bool true)) base (.slice (some ⟨G, 0, none⟩) n cap) (turnM (inK ks) softE (A ++ [(x, r)]) ++ B) ∧ Out [G] w (wr.setCell ⟨G, k * 13 + 9, none⟩ (.bool true)) ∧ Below base w (wr.setCell ⟨G, k * 13 + 9, none⟩ (.bool true))) := by
          obtain ⟨h1, h2, h3, h4, h5, h6⟩ := HQ.out
          refine ⟨by rw [h1]; simp, by simp [h2], ?_, h4.trans (Out.set _ _ _ _), h5.setCell h6 _⟩
          rw [tapp]
          have := h3.set (k := k) (by rw [turnM_len, h2]) 9 (by omega) (.bool true) (softE x) rfl rfl rfl rfl
          simpa using this
        clear HQ he tapp
        generalize x.key = xk at *
        go_wp2_with fail
        refine CT.out.mono ?_
        rintro e w2 ⟨rfl, rfl⟩
        clear CT
        go_wp2_with fail
        go_roundw
        case rel => exact ⟨A ++ [(x, r)], B, HA.out.1, by rw [HA.out.2.1]; go_num, HA.out.2.2.1, HA.out.2.2.2.1, HA.out.2.2.2.2⟩
        case measure => simp [intOf]; omega
    | nil =>
      simp only [List.length_nil] at hlen
      have e : k = n := by omega
      clear hlen
      subst e
      simp only [List.append_nil] at hAB ho
      subst hAB
      have HE : Hid (EntsLV wr base (.slice (some ⟨G, 0, none⟩) k cap) (turnM (inK ks) softE m) ∧ Out [G] w wr ∧ Below base w wr) := ⟨ho, hout, hb⟩
      clear ho hout hb hk HN HK
      go_wp2_with fail
      exact bodyPost_end (v := .tuple #[]) (by simp [results, Tryz.results194, go_sem]) rfl ⟨rfl, HE.out⟩
set_option maxHeartbeats 1000000 in
theorem l9Soft_nil (w : World) (a b : Option Addr) (c d n : Nat) : Calls Tryz.prog 194 #[.slice a 0 c, .slice b n d] w fun e w' => e = .returned (.tuple #[]) ∧ Below w.heap.size w w' := by
  go_enter Tryz.func194, Tryz.ntmps194
  go_wp2_with fail
  go_loop [4] (fun i => i = .int .i64 0) (fun _ => 0)
  case atStart => exact rfl
  case round =>
    obtain rfl := hrel
    go_wp2_with fail
    exact bodyPost_end (v := .tuple #[]) (by simp [results, Tryz.results194, go_sem]) rfl ⟨rfl, Below.refl _ _⟩
theorem fp_turnM (v : Value) (p : Ent → Bool) (f : Ent → Ent) (m : List (Ent × EntR)) : fp v (turnM p f m) = fp v m := by unfold fp; rw [foot_turnM]
theorem l9Soft_v (w : World) (base n c : Nat) (v a : Option Addr) (kc : Nat) (ks : List ByteArray) (m : List (Ent × EntR)) (hm : m.length ≤ 1000) (hks : ks.length ≤ 1000) (h : EntsLV w base (.slice v n c) m) (hbs : base ≤ w.heap.size) (hk : ∀ X, Below base w X → TIn X a ks) :
    Calls Tryz.prog 194 #[.slice v n c, .slice a ks.length kc] w fun e w' => e = .returned (.tuple #[]) ∧ EntsLV w' base (.slice v n c) (turnM (inK ks) softE m) ∧ Out (fp (.slice v n c) m) w w' ∧ Below base w w' := by
  rcases h.form with ⟨e, rfl⟩ | ⟨g, c', e, _⟩
  · simp only [Value.slice.injEq] at e
    obtain ⟨rfl, rfl, rfl⟩ := e
    exact (l9Soft_nil w none a 0 kc _).mono fun _ _ ⟨h1, h2⟩ => ⟨h1, h.below h2, .below h2, h2.mono hbs⟩
  · simp only [Value.slice.injEq] at e
    obtain ⟨rfl, rfl, rfl⟩ := e
    refine (l9Soft_o w base g c a kc ks m hm hks h hbs hk).mono ?_
    rintro e w' ⟨h1, h2, h3, h4⟩
    exact ⟨h1, h2, h3.mono (fun b hb => by simp at hb; subst hb; simp [fp, Value.ownBlock]), h4⟩
/-! ### keys taken out one behind the other -/
def offKs (ks : List ByteArray) (m : List (Ent × EntR)) : List (Ent × EntR) := m.filter fun q => !inK ks q.1
theorem isKey_iff {key : ByteArray} {x : Ent} : isKey key x = decide (key = x.key) := by
  unfold isKey
  by_cases h : key = x.key
  · subst h; simp
  · rw [decide_eq_false h, beq_eq_false_iff_ne]
    intro e
    rw [ByteArray.toList_eq, ByteArray.toList_eq] at e
    exact h (ByteArray.ext (Array.ext' e)).symm
theorem offKs_next {ks : List ByteArray} {j : Nat} {key : ByteArray} {m : List (Ent × EntR)} (h : ks[j]? = some key) : offKey key (offKs (ks.take j) m) = offKs (ks.take (j + 1)) m := by
  unfold offKey offKs
  rw [List.filter_filter, take_next h]
  congr 1
  funext q
  unfold inK tagB
  rw [List.any_append, isKey_iff]
  simp [Bool.and_comm]
theorem offKs_nil (m : List (Ent × EntR)) : offKs [] m = m := by unfold offKs; exact List.filter_eq_self.2 fun q _ => by simp [inK, tagB]
theorem offKs_map (ks : List ByteArray) (m : List (Ent × EntR)) : (offKs ks m).map Prod.fst = (m.map Prod.fst).filter fun x => !inK ks x := by
  unfold offKs
  rw [List.filter_map]
  rfl
theorem foot_offKs {ks : List ByteArray} {l : List (Ent × EntR)} {b : Nat} (h : b ∈ foot (offKs ks l)) : b ∈ foot l := (foot_sub List.filter_sublist).subset h
set_option maxRecDepth 100000 in
set_option maxHeartbeats 8000000 in
theorem l9Hard_at (w : World) (B base : Nat) (bu gu : Int) (v1 v2 : Value) (l1 l2 : List (Ent × EntR)) (a : Option Addr) (kc : Nat) (ks : List ByteArray) (hks : ks.length ≤ 1000) (hs : S4 w B (.int .i64 bu) (.int .i64 gu) v1 v2) (h : StoO w base v1 v2 l1 l2) (hbase : base ≤ w.heap.size) (hbB : base ≤ B) (hB1 : B ∉ v1.ownBlock.toList ++ foot l1) (hB2 : B ∉ v2.ownBlock.toList ++ foot l2) (n1 : l1.length ≤ 1048576) (n2 : l2.length ≤ 1048576) (hk : ∀ X, Below base w X → TIn X a ks) :
    Calls Tryz.prog 162 #[.pointer (some ⟨B, 0, none⟩), .slice a ks.length kc, .bool true] w fun e w' => e = .returned (.tuple #[]) ∧ (∃ a1 k1 n1 a2 k2 n2, S4 w' B (.int .i64 bu) (.int .i64 gu) (.slice a1 n1 k1) (.slice a2 n2 k2) ∧ StoLV w' base (.slice a1 n1 k1) (.slice a2 n2 k2) (offKs ks l1) (offKs ks l2)) ∧ Below base w w' := by
  have HK : Hid (∀ X, Below base w X → TIn X a ks) := hk
  have HBS : Hid (base ≤ w.heap.size ∧ base ≤ B) := ⟨hbase, hbB⟩
  have HL : Hid (l1.length ≤ 1048576 ∧ l2.length ≤ 1048576) := ⟨n1, n2⟩
  have HST : Hid (∃ u1 u2, S4 w B (.int .i64 bu) (.int .i64 gu) u1 u2 ∧ StoO w base u1 u2 (offKs (ks.take 0) l1) (offKs (ks.take 0) l2) ∧ B ∉ u1.ownBlock.toList ++ foot (offKs (ks.take 0) l1) ∧ B ∉ u2.ownBlock.toList ++ foot (offKs (ks.take 0) l2)) := by
    refine ⟨v1, v2, hs, ?_⟩
    rw [List.take_zero, offKs_nil, offKs_nil]
    exact ⟨h, hB1, hB2⟩
  clear hk hs h hbase hbB hB1 hB2 n1 n2
  obtain ⟨kn, hkn⟩ : ∃ n, ks.length = n := ⟨_, rfl⟩
  have HKN : Hid (ks.length = kn) := hkn
  rw [hkn] at hks ⊢
  clear hkn
  go_enter Tryz.func162, Tryz.ntmps162
  go_wp2_with fail
  go_loopw [6] (fun i wr => ∃ j : Nat, j ≤ kn ∧ i = .int .i64 (j : Int) ∧ (∃ u1 u2, S4 wr B (.int .i64 bu) (.int .i64 gu) u1 u2 ∧ StoO wr base u1 u2 (offKs (ks.take j) l1) (offKs (ks.take j) l2) ∧ B ∉ u1.ownBlock.toList ++ foot (offKs (ks.take j) l1) ∧ B ∉ u2.ownBlock.toList ++ foot (offKs (ks.take j) l2)) ∧ Below base w wr) (fun i _ => kn - (intOf i).toNat)
  case atStart => exact ⟨0, Nat.zero_le _, rfl, HST.out, Below.refl _ _⟩
  case round =>
    obtain ⟨j, hj, rfl, ⟨u1, u2, s, o, b1, b2⟩, hb⟩ := hrel
    clear HST
    by_cases hlt : j < kn
    · obtain ⟨key, hkey⟩ : ∃ r, ks[j]? = some r := ⟨ks[j]'(by have := HKN.out; omega), List.getElem?_eq_getElem _⟩
      have CD := l8Drop_at wr B base bu gu u1 u2 _ _ key s o (by have := HBS.out.1; have := hb.size; omega) b1 b2 (Nat.le_trans (List.length_filter_le _ _) HL.out.1) (Nat.le_trans (List.length_filter_le _ _) HL.out.2)
      rw [offKs_next hkey, offKs_next hkey] at CD
      rcases HK.out wr hb with e | ⟨g, off, rfl, hat⟩
      · rw [e] at hkey; simp at hkey
      have p := hat j key hkey
      have gj : (j : Int) < kn := by omega
      have gj0 : (0 : Int) ≤ j := by omega
      have HB : Hid (Below base w wr) := hb
      clear s o b1 b2 hkey hat hb
      go_wp2_with fail
      refine CD.mono ?_
      rintro e w2 ⟨rfl, hnx, hb2⟩
      have HX : Hid _ := hnx
      have HB2 : Hid (Below base w w2) := HB.out.trans (hb2.mono HBS.out.2)
      clear CD hnx hb2 HB p
      go_wp2_with fail
      go_roundw
      case rel => exact ⟨j + 1, by omega, by go_num, HX.out, HB2.out⟩
      case measure => simp [intOf]; omega
    · have e : j = kn := by omega
      subst e
      rw [List.take_of_length_le (by have := HKN.out; omega)] at o b1 b2
      have HE : Hid ((∃ a1 k1 n1 a2 k2 n2, S4 wr B (.int .i64 bu) (.int .i64 gu) (.slice a1 n1 k1) (.slice a2 n2 k2) ∧ StoLV wr base (.slice a1 n1 k1) (.slice a2 n2 k2) (offKs ks l1) (offKs ks l2)) ∧ Below base w wr) := by
        obtain ⟨a1, k1, rfl, _⟩ := row_form o.t.own
        obtain ⟨a2, k2, rfl, _⟩ := row_form o.k.own
        exact ⟨⟨a1, k1, _, a2, k2, _, s, o.lv⟩, hb⟩
      clear s o b1 b2 hb HK
      go_wp2_with fail
      exact bodyPost_end (v := .tuple #[]) (by simp [results, Tryz.results162, go_sem]) rfl ⟨rfl, HE.out⟩
set_option maxRecDepth 100000 in
set_option maxHeartbeats 8000000 in
theorem l9SoftS_at (w : World) (B base : Nat) (bu gu : Int) (a1 a2 : Option Addr) (n1 k1 n2 k2 : Nat) (l1 l2 : List (Ent × EntR)) (a : Option Addr) (kc : Nat) (ks : List ByteArray) (hks : ks.length ≤ 1000) (hs : S4 w B (.int .i64 bu) (.int .i64 gu) (.slice a1 n1 k1) (.slice a2 n2 k2)) (h : StoLV w base (.slice a1 n1 k1) (.slice a2 n2 k2) l1 l2) (hbase : base ≤ w.heap.size) (hB1 : B ∉ fp (.slice a1 n1 k1) l1) (hB2 : B ∉ fp (.slice a2 n2 k2) l2) (z1 : l1.length ≤ 1000) (z2 : l2.length ≤ 1000) (hk : ∀ X, Below base w X → TIn X a ks) :
    Calls Tryz.prog 162 #[.pointer (some ⟨B, 0, none⟩), .slice a ks.length kc, .bool false] w fun e w' => e = .returned (.tuple #[]) ∧ (S4 w' B (.int .i64 bu) (.int .i64 gu) (.slice a1 n1 k1) (.slice a2 n2 k2) ∧ StoLV w' base (.slice a1 n1 k1) (.slice a2 n2 k2) (turnM (inK ks) softE l1) (turnM (inK ks) softE l2)) ∧ Below base w w' := by
  have so : ∀ {X X' : World} {F : List Nat}, S4 X B (.int .i64 bu) (.int .i64 gu) (.slice a1 n1 k1) (.slice a2 n2 k2) → Out F X X' → B ∉ F → S4 X' B (.int .i64 bu) (.int .i64 gu) (.slice a1 n1 k1) (.slice a2 n2 k2) := fun s o hn => ⟨by rw [o.cell B 0 s.lt hn]; exact s.c0, by rw [o.cell B 1 s.lt hn]; exact s.c1, by rw [o.cell B 2 s.lt hn]; exact s.c2, by rw [o.cell B 3 s.lt hn]; exact s.c3, fun q => by rw [o.frozen B q s.lt hn]; exact s.fr q, Nat.lt_of_lt_of_le s.lt o.size⟩
  have C1 : Hid (Calls Tryz.prog 194 #[.slice a1 n1 k1, .slice a ks.length kc] w fun e w' => e = .returned (.tuple #[]) ∧ S4 w' B (.int .i64 bu) (.int .i64 gu) (.slice a1 n1 k1) (.slice a2 n2 k2) ∧ StoLV w' base (.slice a1 n1 k1) (.slice a2 n2 k2) (turnM (inK ks) softE l1) l2 ∧ Below base w w') := by
    refine (l9Soft_v w base n1 k1 a1 a kc ks l1 z1 hks h.t hbase hk).mono ?_
    rintro e w' ⟨h1, h2, h3, h4⟩
    exact ⟨h1, so hs h3 hB1, ⟨h2, h.k.out h3 (fun b hb e => h.nd b e hb), by rw [fp_turnM]; exact h.nd⟩, h4⟩
  have C2 : Hid (∀ X, S4 X B (.int .i64 bu) (.int .i64 gu) (.slice a1 n1 k1) (.slice a2 n2 k2) → StoLV X base (.slice a1 n1 k1) (.slice a2 n2 k2) (turnM (inK ks) softE l1) l2 → Below base w X → Calls Tryz.prog 194 #[.slice a2 n2 k2, .slice a ks.length kc] X fun e w' => e = .returned (.tuple #[]) ∧ (S4 w' B (.int .i64 bu) (.int .i64 gu) (.slice a1 n1 k1) (.slice a2 n2 k2) ∧ StoLV w' base (.slice a1 n1 k1) (.slice a2 n2 k2) (turnM (inK ks) softE l1) (turnM (inK ks) softE l2)) ∧ Below base w w') := fun X s o hb => by
    refine (l9Soft_v X base n2 k2 a2 a kc ks l2 z2 hks o.k (by have := hb.size; omega) (fun Y hY => hk Y (hb.trans hY))).mono ?_
    rintro e w' ⟨h1, h2, h3, h4⟩
    exact ⟨h1, ⟨so s h3 hB2, ⟨o.t.out h3 (fun b hb e => o.nd b hb e), h2, fun b h5 => by rw [fp_turnM]; exact o.nd b h5⟩⟩, hb.trans h4⟩
  have e2 := hs.c2
  clear hs h hbase hB1 hB2 z1 z2 hk so
  generalize ks.length = kn at *
  go_enter Tryz.func162, Tryz.ntmps162
  go_wp2_with fail
  refine C1.out.mono ?_
  rintro e w1 ⟨rfl, s1, o1, hb1⟩
  have CC := C2.out w1 s1 o1 hb1
  have e3 := s1.c3
  clear C1 C2 s1 o1 hb1 e2
  go_wp2_with fail
  refine CC.mono ?_
  rintro e w2 ⟨rfl, hnx⟩
  have HX : Hid _ := hnx
  clear CC hnx e3
  go_wp2_with fail
  exact bodyPost_ret (v := .tuple #[]) (results_none rfl _ _ _) rfl ⟨rfl, HX.out⟩
end Go.Proofs.YtjfjfhoihhmbgaaGreatDoor
/-
  A store whose meant entries are soft, by the program.
-/
namespace Go.Proofs.YtjfjfhoihhmbgaaGreatDoor
open Go.ChangeShapes Go.WideShapes Go.ChangeAt Go.RowKit Go.Sort
/-- The first k entries are turned. -/
def turnP (p : Ent → Bool) (f : Ent → Ent) (k : Nat) (m : List (Ent × EntR)) : List (Ent × EntR) := turnM p f (m.take k) ++ m.drop k
theorem turnP_zero (p : Ent → Bool) (f : Ent → Ent) (m : List (Ent × EntR)) : turnP p f 0 m = m := by simp [turnP, turnM]
theorem turnP_all {p : Ent → Bool} {f : Ent → Ent} {k : Nat} {m : List (Ent × EntR)} (h : m.length ≤ k) : turnP p f k m = turnM p f m := by unfold turnP; rw [List.take_of_length_le h, List.drop_of_length_le h, List.append_nil]
theorem turnP_at {p : Ent → Bool} {f : Ent → Ent} {k : Nat} {m : List (Ent × EntR)} {q : Ent × EntR} (h : m[k]? = some q) : turnP p f k m = turnM p f (m.take k) ++ (q.1, q.2) :: m.drop (k + 1) ∧ (turnM p f (m.take k)).length = k ∧ turnP p f (k + 1) m = turnM p f (m.take k) ++ (if p q.1 then f q.1 else q.1, q.2) :: m.drop (k + 1) := by
  obtain ⟨hk, e⟩ := List.getElem?_eq_some_iff.1 h
  refine ⟨?_, by rw [turnM_len, List.length_take]; omega, ?_⟩
  · unfold turnP; rw [List.drop_eq_getElem_cons hk, e]
  · unfold turnP
    rw [take_next h]
    unfold turnM
    rw [List.map_append]
    simp
theorem fp_turnP (v : Value) (p : Ent → Bool) (f : Ent → Ent) (k : Nat) (m : List (Ent × EntR)) : fp v (turnP p f k m) = fp v m := by
  unfold fp turnP
  rw [foot_app, foot_turnM, ← foot_app, List.take_append_drop]
theorem mid_at {α : Type} {A B : List α} {y : α} {k : Nat} (h : A.length = k) : (A ++ y :: B)[k]? = some y := by subst h; exact mid_eq _ _ _
/-- One step: the k-th of all entries is turned, if it is meant. -/
theorem soft_step {X : World} {base n1 k1 n2 k2 : Nat} {a1 a2 : Option Addr} {m1 m2 : List (Ent × EntR)} {p : Ent → Bool} {k : Nat} {h : Hdl} (hs : StoLV X base (.slice a1 n1 k1) (.slice a2 n2 k2) (turnP p softE k m1) (turnP p softE (k - m1.length) m2)) (hh : (hdl2 a1 a2 m1 m2)[k]? = some h) :
    HThere X h ∧ X.cell? ⟨h.b, h.o + 9, none⟩ = some (.bool h.x.b1) ∧ X.frozen? ⟨h.b, h.o + 9, none⟩ = false ∧ base ≤ h.b ∧ (h.b ∈ fp (.slice a1 n1 k1) m1 ∨ h.b ∈ fp (.slice a2 n2 k2) m2) ∧ (p h.x = false → StoLV X base (.slice a1 n1 k1) (.slice a2 n2 k2) (turnP p softE (k + 1) m1) (turnP p softE (k + 1 - m1.length) m2)) ∧ (p h.x = true → StoLV (X.setCell ⟨h.b, h.o + 9, none⟩ (.bool true)) base (.slice a1 n1 k1) (.slice a2 n2 k2) (turnP p softE (k + 1) m1) (turnP p softE (k + 1 - m1.length) m2)) := by
  have split : (k < m1.length ∧ (hdlsA a1 m1)[k]? = some h) ∨ (m1.length ≤ k ∧ (hdlsA a2 m2)[k - m1.length]? = some h) := by
    unfold hdl2 at hh
    by_cases c : k < m1.length
    · rw [List.getElem?_append_left (by rw [hdlsA_len]; exact c)] at hh; exact .inl ⟨c, hh⟩
    · rw [List.getElem?_append_right (by rw [hdlsA_len]; omega), hdlsA_len] at hh; exact .inr ⟨by omega, hh⟩
  have loc : ∀ {a : Option Addr} {n c j : Nat} {m M : List (Ent × EntR)}, EntsLV X base (.slice a n c) M → M.length = m.length → (hdlsA a m)[j]? = some h → ∃ G, a = some ⟨G, 0, none⟩ ∧ m[j]? = some (h.x, h.r) ∧ h.b = G ∧ h.o = j * 13 := fun {a n c j m M} he hl hj => by
    rcases he.form with ⟨_, e⟩ | ⟨G, c', e, _⟩
    · have : m = [] := by rw [e] at hl; exact List.eq_nil_of_length_eq_zero (by simpa using hl.symm)
      subst this
      rw [List.getElem?_eq_none (by rw [hdlsA_len]; simp)] at hj
      cases hj
    · simp only [Value.slice.injEq] at e
      obtain ⟨rfl, _⟩ := e
      simp only [hdlsA] at hj
      unfold hdls at hj
      rw [List.getElem?_mapIdx] at hj
      obtain ⟨q, hq, rfl⟩ := Option.map_eq_some_iff.1 hj
      exact ⟨G, rfl, hq, rfl, by simp⟩
  have tlen : ∀ (k : Nat) (m : List (Ent × EntR)), (turnP p softE k m).length = m.length := fun k m => by unfold turnP; rw [List.length_append, turnM_len, ← List.length_append, List.take_append_drop]
  rcases split with ⟨hk, hj⟩ | ⟨hk, hj⟩
  · obtain ⟨G, rfl, hq, hb, ho⟩ := loc hs.t (tlen _ _) hj
    obtain ⟨t1, t2, t3⟩ := turnP_at (p := p) (f := softE) hq
    simp only at t1 t3
    have z := hs.t.at
    rw [t1] at z
    have cells := z.2.2.2.2.1 k (h.x, h.r) (mid_at t2)
    have hrow := hs.t.rows (h.x, h.r) (by rw [t1]; simp)
    rw [hb, ho]
    have e0 : k - m1.length = 0 := by omega
    have e1 : k + 1 - m1.length = 0 := by omega
    refine ⟨⟨fun j hj' => by rw [hb, ho]; exact cells j hj', hrow.in⟩, cells 9 (by omega), z.2.2.2.2.2 _, z.2.2.1, .inl (by simp [fp, Value.ownBlock]), fun hp => ?_, fun hp => ?_⟩
    · rw [t3, hp, e1]
      have := hs
      rw [t1, e0] at this
      simpa using this
    · rw [t3, hp, e1]
      have hs' := hs
      rw [t1, e0] at hs'
      exact hs'.setT t2 9 (by omega) (.bool true) (softE h.x) rfl rfl rfl rfl
  · obtain ⟨G, rfl, hq, hb, ho⟩ := loc hs.k (tlen _ _) hj
    obtain ⟨t1, t2, t3⟩ := turnP_at (p := p) (f := softE) hq
    simp only at t1 t3
    have z := hs.k.at
    rw [t1] at z
    have cells := z.2.2.2.2.1 (k - m1.length) (h.x, h.r) (mid_at t2)
    have hrow := hs.k.rows (h.x, h.r) (by rw [t1]; simp)
    rw [hb, ho]
    have e1 : k + 1 - m1.length = k - m1.length + 1 := by omega
    have e2 : turnP p softE (k + 1) m1 = turnP p softE k m1 := by rw [turnP_all (by omega), turnP_all (by omega)]
    refine ⟨⟨fun j hj' => by rw [hb, ho]; exact cells j hj', hrow.in⟩, cells 9 (by omega), z.2.2.2.2.2 _, z.2.2.1, .inr (by simp [fp, Value.ownBlock]), fun hp => ?_, fun hp => ?_⟩
    · rw [e2, e1, t3, hp]
      have := hs
      rw [t1] at this
      simpa using this
    · rw [e2, e1, t3, hp]
      have hs' := hs
      rw [t1] at hs'
      exact hs'.setK t2 9 (by omega) (.bool true) (softE h.x) rfl rfl rfl rfl
/-- Behind the first step: a store told anew, in a variable. -/
structure SfCut (W : World) (bu gu : Int) (tl kl : List Ent) (T lo : Nat) (a1 a2 : Option Addr) (k1 n1 k2 n2 : Nat) (m1 m2 : List (Ent × EntR)) (X : World) : Prop where
  b : Below W.heap.size W X
  s : S4 X T (.int .i64 bu) (.int .i64 gu) (.slice a1 n1 k1) (.slice a2 n2 k2)
  o : StoLV X lo (.slice a1 n1 k1) (.slice a2 n2 k2) m1 m2
  t1 : T ∉ fp (.slice a1 n1 k1) m1
  t2 : T ∉ fp (.slice a2 n2 k2) m2
  lo1 : W.heap.size ≤ lo
  lo2 : lo ≤ X.heap.size
  e1 : m1.map Prod.fst = tl
  e2 : m2.map Prod.fst = kl
theorem SfCut.put {W wb : World} {bu gu : Int} {tl kl : List Ent} {T lo : Nat} {a1 a2 : Option Addr} {k1 n1 k2 n2 : Nat} {m1 m2 : List (Ent × EntR)} {z0 z1 z2 z3 : Value} (b : Below W.heap.size W wb) (s : S4 wb T z0 z1 z2 z3) (o : StoLV wb lo (.slice a1 n1 k1) (.slice a2 n2 k2) m1 m2) (t1 : T ∉ fp (.slice a1 n1 k1) m1) (t2 : T ∉ fp (.slice a2 n2 k2) m2) (hT : W.heap.size ≤ T) (lo1 : W.heap.size ≤ lo) (lo2 : lo ≤ wb.heap.size) (e1 : m1.map Prod.fst = tl) (e2 : m2.map Prod.fst = kl) :
    SfCut W bu gu tl kl T lo a1 a2 k1 n1 k2 n2 m1 m2 ((((wb.setCell ⟨T, 0, none⟩ (.int .i64 bu)).setCell ⟨T, 1, none⟩ (.int .i64 gu)).setCell ⟨T, 2, none⟩ (.slice a1 n1 k1)).setCell ⟨T, 3, none⟩ (.slice a2 n2 k2)) := by
  have off : ∀ {X : World} {i : Nat} {u : Value}, StoLV X lo (.slice a1 n1 k1) (.slice a2 n2 k2) m1 m2 → StoLV (X.setCell ⟨T, i, none⟩ u) lo (.slice a1 n1 k1) (.slice a2 n2 k2) m1 m2 := fun {X i u} h => h.out (Out.set X T i u) (fun c hc e => by simp at hc; subst hc; exact t1 e) (fun c hc e => by simp at hc; subst hc; exact t2 e)
  exact ⟨(((b.setCell hT _).setCell hT _).setCell hT _).setCell hT _, (((s.set0 _).set1 _).set2 _).set3 _, off (off (off (off o))), t1, t2, lo1, by simpa using lo2, e1, e2⟩
set_option maxRecDepth 100000 in
set_option maxHeartbeats 16000000 in
theorem softened_any (w : World) (B0 g : Nat) (lb : Array Value) (p : Ent → Bool) (C : World → Prop) (bu gu : Int) (ta ka : Option Addr) (tc kc : Nat) (tl kl : List (Ent × EntR)) (hS : StoOk w ta ka tl kl) (PF : PredF B0 g lb p C) (hC : C w) (hB0 : B0 ≤ w.heap.size) :
    Calls Tryz.prog 159 #[.agg #[.int .i64 bu, .int .i64 gu, .slice ta tl.length tc, .slice ka kl.length kc], .func (.func g) #[] lb] w fun e w' => (∃ a1 k1 n1 a2 k2 n2 m1 m2, e = .returned (.agg #[.int .i64 bu, .int .i64 gu, .slice a1 n1 k1, .slice a2 n2 k2]) ∧ m1.map Prod.fst = turnE p softE (tl.map Prod.fst) ∧ m2.map Prod.fst = turnE p softE (kl.map Prod.fst) ∧ StoLV w' w.heap.size (.slice a1 n1 k1) (.slice a2 n2 k2) m1 m2) ∧ Below w.heap.size w w' := by
  have hn := hS.n
  have HTL : Hid (∀ x ∈ tl.map Prod.fst ++ kl.map Prod.fst, x.ts.length ≤ 1048576) := fun x hx => by
    rw [← hdl2_x ta ka] at hx
    obtain ⟨h, hh, rfl⟩ := List.mem_map.1 hx
    exact (entC_sizes (hS.z h hh)).2
  have HPF : Hid (PredF B0 g lb p C ∧ C w ∧ B0 ≤ w.heap.size) := ⟨PF, hC, hB0⟩
  have eg := PF.eg
  obtain ⟨W, hW⟩ : ∃ W, W = (w.alloc (.cells #[.int .i64 bu, .int .i64 gu, .slice ta tl.length tc, .slice ka kl.length kc] 28)).alloc (.cells #[.int .i64 0, .int .i64 0, .slice none 0 0, .slice none 0 0] 28) := ⟨_, rfl⟩
  have HW : Hid (W = (w.alloc (.cells #[.int .i64 bu, .int .i64 gu, .slice ta tl.length tc, .slice ka kl.length kc] 28)).alloc (.cells #[.int .i64 0, .int .i64 0, .slice none 0 0, .slice none 0 0] 28)) := hW
  have K0 : Hid (Below w.heap.size w W ∧ S4 W w.heap.size (.int .i64 bu) (.int .i64 gu) (.slice ta tl.length tc) (.slice ka kl.length kc) ∧ S4 W (w.heap.size + 1) (.int .i64 0) (.int .i64 0) (.slice none 0 0) (.slice none 0 0) ∧ W.heap.size = w.heap.size + 2) := by
    rw [hW]
    refine ⟨((Below.refl _ _).alloc (Nat.le_refl _) _).alloc (by simp) _, (S4.new w _ _ _ _ _).keep ((Below.refl _ _).alloc (Nat.le_refl _) _), ?_, by simp⟩
    have := S4.new (w.alloc (.cells #[.int .i64 bu, .int .i64 gu, .slice ta tl.length tc, .slice ka kl.length kc] 28)) (.int .i64 0) (.int .i64 0) (.slice none 0 0) (.slice none 0 0) 28
    simpa using this
  have CS : Hid (∀ X, Below w.heap.size w X → Calls Tryz.prog 58 #[.agg #[.int .i64 bu, .int .i64 gu, .slice ta tl.length tc, .slice ka kl.length kc]] X fun e w' => (∃ a1 c1 d1 a2 c2 d2, e = .returned (.agg #[.slice a1 c1 d1, .slice a2 c2 d2]) ∧ TwoP w' X.heap.size (.slice a1 c1 d1) (.slice a2 c2 d2) (hdlsA ta tl) (hdlsA ka kl)) ∧ Below X.heap.size X w') := fun X hX => by
    refine (shelvesOf_any X bu gu ta ka tc kc tl kl (by omega) (by omega) (hS.t.keep hX) (hS.k.keep hX)).mono ?_
    rintro e w' ⟨⟨v1, v2, rfl, h2⟩, hb'⟩
    obtain ⟨a1, d1, rfl, _⟩ := h2.a.form
    obtain ⟨a2, d2, rfl, _⟩ := h2.b.form
    exact ⟨⟨a1, _, d1, a2, _, d2, rfl, h2⟩, hb'⟩
  have HSL : Hid (∀ X v1 v2 base, Below w.heap.size w X → TwoP X base v1 v2 (hdlsA ta tl) (hdlsA ka kl) → Calls Tryz.prog 60 #[.agg #[v1, v2], .agg #[.int .i64 bu, .int .i64 gu, .slice ta tl.length tc, .slice ka kl.length kc]] X fun e w' => (∃ a1 k1 n1 a2 k2 n2 m1 m2, e = .returned (.agg #[.int .i64 bu, .int .i64 gu, .slice a1 n1 k1, .slice a2 n2 k2]) ∧ m1.map Prod.fst = tl.map Prod.fst ∧ m2.map Prod.fst = kl.map Prod.fst ∧ StoLV w' X.heap.size (.slice a1 n1 k1) (.slice a2 n2 k2) m1 m2) ∧ Below X.heap.size X w') := fun X v1 v2 base hb h => by
    refine (storeLike_any X v1 v2 base _ _ bu gu ta ka tc kc tl.length kl.length h (by rw [hdlsA_len, hdlsA_len]; omega) (fun x hx => (hdl2_there hS.t hS.k x hx).keep hb) (fun x hx => hS.z x hx) (fun x hx => hS.ts x hx)).mono ?_
    rintro e w' ⟨⟨a1, k1, n1, a2, k2, n2, m1, m2, rfl, q1, q2, o⟩, hb'⟩
    exact ⟨⟨a1, k1, n1, a2, k2, n2, m1, m2, rfl, by rw [q1, hdlsA_x], by rw [q2, hdlsA_x], o.lv⟩, hb'⟩
  have HLN : Hid (tl.length + kl.length ≤ 40) := hn
  have HKW : Hid (∀ X, Below W.heap.size W X → Below w.heap.size w X ∧ S4 X w.heap.size (.int .i64 bu) (.int .i64 gu) (.slice ta tl.length tc) (.slice ka kl.length kc) ∧ S4 X (w.heap.size + 1) (.int .i64 0) (.int .i64 0) (.slice none 0 0) (.slice none 0 0) ∧ w.heap.size + 2 ≤ W.heap.size) := fun X hX => ⟨K0.out.1.trans (hX.mono K0.out.1.size), K0.out.2.1.keep hX, K0.out.2.2.1.keep hX, by have := K0.out.2.2.2; omega⟩
  clear hW hS PF hC hB0 K0 hn
  have HL1 : Hid (∀ m1 m2 : List (Ent × EntR), m1.map Prod.fst = tl.map Prod.fst → m2.map Prod.fst = kl.map Prod.fst → m1.length + m2.length ≤ 40) := fun m1 m2 q1 q2 => by
    have l1 := congrArg List.length q1
    have l2 := congrArg List.length q2
    simp at l1 l2
    have := HLN.out
    omega
  generalize tl.length = tn at *
  generalize kl.length = kn at *
  have HKS : Hid (∀ X, Below W.heap.size W X → (X.cell? ⟨w.heap.size, 0, none⟩ = some (.int .i64 bu) ∧ X.cell? ⟨w.heap.size, 1, none⟩ = some (.int .i64 gu) ∧ X.cell? ⟨w.heap.size, 2, none⟩ = some (.slice ta tn tc) ∧ X.cell? ⟨w.heap.size, 3, none⟩ = some (.slice ka kn kc))) := fun X hX => ⟨(HKW.out X hX).2.1.c0, (HKW.out X hX).2.1.c1, (HKW.out X hX).2.1.c2, (HKW.out X hX).2.1.c3⟩
  have HKA : Hid (∀ X o, Below W.heap.size W X → ((X.alloc o).cell? ⟨w.heap.size, 0, none⟩ = some (.int .i64 bu) ∧ (X.alloc o).cell? ⟨w.heap.size, 1, none⟩ = some (.int .i64 gu) ∧ (X.alloc o).cell? ⟨w.heap.size, 2, none⟩ = some (.slice ta tn tc) ∧ (X.alloc o).cell? ⟨w.heap.size, 3, none⟩ = some (.slice ka kn kc))) := fun X o hX => HKS.out _ (hX.alloc hX.size o)
  have HKT : Hid (∀ X T u0 u1 u2 u3, W.heap.size ≤ T → Below W.heap.size W X → (((((X.setCell ⟨T, 0, none⟩ u0).setCell ⟨T, 1, none⟩ u1).setCell ⟨T, 2, none⟩ u2).setCell ⟨T, 3, none⟩ u3).cell? ⟨w.heap.size, 0, none⟩ = some (.int .i64 bu) ∧ ((((X.setCell ⟨T, 0, none⟩ u0).setCell ⟨T, 1, none⟩ u1).setCell ⟨T, 2, none⟩ u2).setCell ⟨T, 3, none⟩ u3).cell? ⟨w.heap.size, 1, none⟩ = some (.int .i64 gu) ∧ ((((X.setCell ⟨T, 0, none⟩ u0).setCell ⟨T, 1, none⟩ u1).setCell ⟨T, 2, none⟩ u2).setCell ⟨T, 3, none⟩ u3).cell? ⟨w.heap.size, 2, none⟩ = some (.slice ta tn tc) ∧ ((((X.setCell ⟨T, 0, none⟩ u0).setCell ⟨T, 1, none⟩ u1).setCell ⟨T, 2, none⟩ u2).setCell ⟨T, 3, none⟩ u3).cell? ⟨w.heap.size, 3, none⟩ = some (.slice ka kn kc))) := fun X T u0 u1 u2 u3 hT hX => HKS.out _ ((((hX.setCell hT _).setCell hT _).setCell hT _).setCell hT _)
  have B0' : Hid (Below W.heap.size W W.drew) := (Below.refl _ _).drew
  have BZ : Hid (Below W.heap.size W ((W.alloc (.cells #[.int .i64 0, .int .i64 0, .slice none 0 0, .slice none 0 0] 28)).drew) ∧ S4 ((W.alloc (.cells #[.int .i64 0, .int .i64 0, .slice none 0 0, .slice none 0 0] 28)).drew) W.heap.size (.int .i64 0) (.int .i64 0) (.slice none 0 0) (.slice none 0 0) ∧ W.heap.size + 1 ≤ ((W.alloc (.cells #[.int .i64 0, .int .i64 0, .slice none 0 0, .slice none 0 0] 28)).drew).heap.size) := ⟨((Below.refl _ _).alloc (Nat.le_refl _) _).drew, (S4.new W _ _ _ _ _).keep ((Below.refl _ _).drew), by simp [World.drew]⟩
  have HNA : Hid (∀ X : World, S4 (X.alloc (.cells #[.int .i64 0, .int .i64 0, .slice none 0 0, .slice none 0 0] 28)) X.heap.size (.int .i64 0) (.int .i64 0) (.slice none 0 0) (.slice none 0 0) ∧ X.heap.size + 1 = (X.alloc (.cells #[.int .i64 0, .int .i64 0, .slice none 0 0, .slice none 0 0] 28)).heap.size) := fun X => ⟨S4.new X _ _ _ _ _, by simp⟩
  go_enter Tryz.func159, Tryz.ntmps159
  go_upto_region 1 with fail
  rw [← HW.out]
  clear HW
  go_cut [5] from 8 to 11 (fun s5 wx => ∃ T lo b1 b2 k1 n1 k2 n2 m1 m2, s5 = .pointer (some ⟨T, 0, none⟩) ∧ SfCut W bu gu (tl.map Prod.fst) (kl.map Prod.fst) T lo b1 b2 k1 n1 k2 n2 m1 m2 wx)
  case first =>
    go_region_held3 (fun X => X.cell? ⟨w.heap.size, 0, none⟩ = some (.int .i64 bu) ∧ X.cell? ⟨w.heap.size, 1, none⟩ = some (.int .i64 gu) ∧ X.cell? ⟨w.heap.size, 2, none⟩ = some (.slice ta tn tc) ∧ X.cell? ⟨w.heap.size, 3, none⟩ = some (.slice ka kn kc))
      (first | ((with_reducible refine HKS.out _ ?_); (with_reducible exact BB.out)) | ((with_reducible refine HKS.out _ ?_); (with_reducible exact BA.out)) | ((with_reducible refine HKS.out _ ?_); (with_reducible exact BZ.out.1)) | ((with_reducible refine HKS.out _ ?_); (with_reducible exact B0'.out)) | ((with_reducible refine HKA.out _ _ ?_); (with_reducible exact BB.out)) | ((with_reducible refine HKA.out _ _ ?_); (with_reducible exact BA.out)) | ((with_reducible refine HKA.out _ _ ?_); (with_reducible exact B0'.out)) | ((with_reducible refine HKT.out _ _ _ _ _ _ ?_ ?_); (first | exact Nat.le_refl _ | exact BA.out.size | exact BB.out.size); (first | (with_reducible exact BB.out) | exact BB.out.alloc BB.out.size _)))
      (first
      | (go_at_call 60; (with_reducible refine (HSL.out wa _ _ W.heap.size ?_ ?_).mono ?_); (exact (HKW.out _ BA.out).1); (exact TP.out); rintro r0 wb ⟨⟨b1, k1, n1, b2, k2, n2, m1, m2, rfl, q1, q2, o⟩, hbb⟩; have BB : Hid (Below W.heap.size W wb) := BA.out.trans (hbb.mono BA.out.size); have OA : Hid (StoLV wb wa.heap.size (.slice b1 n1 k1) (.slice b2 n2 k2) m1 m2 ∧ m1.map Prod.fst = tl.map Prod.fst ∧ m2.map Prod.fst = kl.map Prod.fst ∧ Below wa.heap.size wa wb) := ⟨o, q1, q2, hbb⟩; clear o q1 q2 hbb; try (obtain ⟨z0, z1, z2, z3, zf, _⟩ := SA.out.keep OA.out.2.2.2; have zf0 := zf 0; have zf1 := zf 1; have zf2 := zf 2; have zf3 := zf 3; clear zf))
      | (go_at_call 60; (with_reducible refine (HSL.out (wa.alloc (.cells #[.int .i64 0, .int .i64 0, .slice none 0 0, .slice none 0 0] 28)) _ _ W.heap.size ?_ ?_).mono ?_); (exact (HKW.out _ (BA.out.alloc BA.out.size _)).1); (exact TP.out.below ((Below.refl _ _).alloc (Nat.le_refl _) _)); rintro r0 wb ⟨⟨b1, k1, n1, b2, k2, n2, m1, m2, rfl, q1, q2, o⟩, hbb⟩; have BB : Hid (Below W.heap.size W wb) := (BA.out.alloc BA.out.size _).trans (hbb.mono (BA.out.alloc BA.out.size _).size); have OB : Hid (StoLV wb (wa.alloc (.cells #[.int .i64 0, .int .i64 0, .slice none 0 0, .slice none 0 0] 28)).heap.size (.slice b1 n1 k1) (.slice b2 n2 k2) m1 m2 ∧ m1.map Prod.fst = tl.map Prod.fst ∧ m2.map Prod.fst = kl.map Prod.fst ∧ Below (wa.alloc (.cells #[.int .i64 0, .int .i64 0, .slice none 0 0, .slice none 0 0] 28)).heap.size (wa.alloc (.cells #[.int .i64 0, .int .i64 0, .slice none 0 0, .slice none 0 0] 28)) wb ∧ S4 wb wa.heap.size (.int .i64 0) (.int .i64 0) (.slice none 0 0) (.slice none 0 0)) := ⟨o, q1, q2, hbb, (HNA.out wa).1.keep hbb⟩; clear o q1 q2 hbb; obtain ⟨z0, z1, z2, z3, zf, _⟩ := OB.out.2.2.2.2; have zf0 := zf 0; have zf1 := zf 1; have zf2 := zf 2; have zf3 := zf 3; clear zf)
      | (go_at_call 58; (with_reducible refine (CS.out W.drew ?_).mono ?_); (exact (HKW.out _ B0'.out).1); rintro r0 wa ⟨⟨a1, c1, d1, a2, c2, d2, rfl, tp⟩, hba⟩; have BA : Hid (Below W.heap.size W wa) := B0'.out.trans (hba.mono B0'.out.size); have TP : Hid (TwoP wa W.heap.size (.slice a1 c1 d1) (.slice a2 c2 d2) (hdlsA ta tl) (hdlsA ka kl)) := tp; clear hba tp)
      | (go_at_call 58; (with_reducible refine (CS.out ((W.alloc (.cells #[.int .i64 0, .int .i64 0, .slice none 0 0, .slice none 0 0] 28)).drew) ?_).mono ?_); (exact (HKW.out _ BZ.out.1).1); rintro r0 wa ⟨⟨a1, c1, d1, a2, c2, d2, rfl, tp⟩, hba⟩; have BA : Hid (Below W.heap.size W wa) := BZ.out.1.trans (hba.mono BZ.out.1.size); have TP : Hid (TwoP wa W.heap.size (.slice a1 c1 d1) (.slice a2 c2 d2) (hdlsA ta tl) (hdlsA ka kl)) := tp.lower BZ.out.1.size; have SA : Hid (S4 wa W.heap.size (.int .i64 0) (.int .i64 0) (.slice none 0 0) (.slice none 0 0)) := BZ.out.2.1.keep hba; have SZ : Hid (W.heap.size + 1 ≤ wa.heap.size) := Nat.le_trans BZ.out.2.2 hba.size; clear hba tp)
      | (go_at_call 60; trace_state; fail))
    all_goals go_wp2_with fail
    all_goals go_meet
    all_goals first
      | exact ⟨W.heap.size, wa.heap.size, b1, b2, k1, n1, k2, n2, m1, m2, rfl, SfCut.put BB.out (SA.out.keep OA.out.2.2.2) OA.out.1 (fun h => by have := OA.out.1.t.ge h; have := SZ.out; omega) (fun h => by have := OA.out.1.k.ge h; have := SZ.out; omega) (Nat.le_refl _) BA.out.size OA.out.2.2.2.size OA.out.2.1 OA.out.2.2.1⟩
      | exact ⟨wa.heap.size, _, b1, b2, k1, n1, k2, n2, m1, m2, rfl, SfCut.put BB.out OB.out.2.2.2.2 OB.out.1 (fun h => by have := OB.out.1.t.ge h; have := (HNA.out wa).2; omega) (fun h => by have := OB.out.1.k.ge h; have := (HNA.out wa).2; omega) BA.out.size (by have := BA.out.size; have := (HNA.out wa).2; omega) OB.out.2.2.2.1.size OB.out.2.1 OB.out.2.2.1⟩
      | exact ⟨wb.heap.size, wa.heap.size, b1, b2, k1, n1, k2, n2, m1, m2, rfl, ⟨BB.out.alloc BB.out.size _, S4.new wb _ _ _ _ _, OA.out.1.below ((Below.refl _ _).alloc (Nat.le_refl _) _), (fun h => by have := OA.out.1.t.lt h; omega), (fun h => by have := OA.out.1.k.lt h; omega), BA.out.size, (by have := OA.out.2.2.2.size; simp; omega), OA.out.2.1, OA.out.2.2.1⟩⟩
  case rest =>
  obtain ⟨T, lo, b1, b2, k1, n1, k2, n2, m1, m2, rfl, hcut⟩ := hcut
  generalize wc = V at *
  obtain ⟨hn1, i1⟩ := slice_len hcut.o.t
  obtain ⟨hn2, i2⟩ := slice_len hcut.o.k
  subst hn1 hn2
  have hml := HL1.out m1 m2 hcut.e1 hcut.e2
  have CS2 : Hid (Calls Tryz.prog 58 #[.agg #[.int .i64 bu, .int .i64 gu, .slice b1 m1.length k1, .slice b2 m2.length k2]] V fun e w' => (∃ a1 c1 d1 a2 c2 d2, e = .returned (.agg #[.slice a1 c1 d1, .slice a2 c2 d2]) ∧ TwoP w' V.heap.size (.slice a1 c1 d1) (.slice a2 c2 d2) (hdlsA b1 m1) (hdlsA b2 m2)) ∧ Below V.heap.size V w') := by
    refine (shelvesOf_any V bu gu b1 b2 k1 k2 m1 m2 (by omega) (by omega) i1 i2).mono ?_
    rintro e w' ⟨⟨v1, v2, rfl, h2⟩, hb'⟩
    obtain ⟨a1, d1, rfl, _⟩ := h2.a.form
    obtain ⟨a2, d2, rfl, _⟩ := h2.b.form
    exact ⟨⟨a1, _, d1, a2, _, d2, rfl, h2⟩, hb'⟩
  have CAL : Hid (∀ X v1 v2 base, TwoP X base v1 v2 (hdlsA b1 m1) (hdlsA b2 m2) → Calls Tryz.prog 90 #[.agg #[v1, v2]] X fun e w' => (∃ a n c, e = .returned (.slice a n c) ∧ n = m1.length + m2.length ∧ OwnP w' X.heap.size (.slice a n c) (hdl2 b1 b2 m1 m2)) ∧ Below X.heap.size X w') := fun X v1 v2 base h => by
    refine (shAll_any X v1 v2 base _ _ h (by rw [hdlsA_len, hdlsA_len]; omega)).mono ?_
    rintro e w' ⟨⟨v, rfl, ho⟩, hb'⟩
    obtain ⟨a, c, rfl, _⟩ := ho.form
    exact ⟨⟨a, _, c, rfl, by rw [List.length_append, hdlsA_len, hdlsA_len], ho⟩, hb'⟩
  have HCT : Hid (SfCut W bu gu (tl.map Prod.fst) (kl.map Prod.fst) T lo b1 b2 k1 m1.length k2 m2.length m1 m2 V) := hcut
  have HML : Hid (m1.length + m2.length ≤ 40) := hml
  have e0 := hcut.s.c0
  have e1 := hcut.s.c1
  have e2 := hcut.s.c2
  have e3 := hcut.s.c3
  clear hcut i1 i2 HKS HKA HKT B0' BZ HNA CS HSL HL1 HLN
  have hmk : m1.length ≤ 40 ∧ m2.length ≤ 40 := by omega
  obtain ⟨M1, hM1⟩ : ∃ n, m1.length = n := ⟨_, rfl⟩
  obtain ⟨M2, hM2⟩ : ∃ n, m2.length = n := ⟨_, rfl⟩
  have HMN : Hid (m1.length = M1 ∧ m2.length = M2) := ⟨hM1, hM2⟩
  rw [hM1, hM2] at HCT CS2 CAL HML hml hmk
  rw [hM1] at e2
  rw [hM2] at e3
  clear hM1 hM2
  go_wp2_with fail
  refine CS2.out.mono ?_
  rintro r0 w2 ⟨⟨a1, c1, d1, a2, c2, d2, rfl, tp⟩, hb2⟩
  have CA := CAL.out w2 _ _ _ tp
  have HB2 : Hid (Below V.heap.size V w2) := hb2
  clear CS2 CAL tp hb2 e0 e1 e2 e3
  go_wp2_with fail
  refine CA.mono ?_
  rintro r0 w3 ⟨⟨av, n, ac, rfl, hnn, ho⟩, hb3⟩
  have HB3 : Hid (Below V.heap.size V w3) := HB2.out.trans (hb3.mono HB2.out.size)
  have HST : Hid (StoLV w3 lo (.slice b1 M1 k1) (.slice b2 M2 k2) (turnP p softE 0 m1) (turnP p softE (0 - m1.length) m2)) := by
    rw [Nat.zero_sub, turnP_zero, turnP_zero]
    exact HCT.out.o.below HB3.out
  have HAL : Hid (∀ X, Out (fp (.slice b1 M1 k1) m1 ++ fp (.slice b2 M2 k2) m2) w3 X → ∀ (k : Nat) h, (hdl2 b1 b2 m1 m2)[k]? = some h → ∃ g, av = some ⟨g, 0, none⟩ ∧ X.cell? ⟨g, k, none⟩ = some (.pointer (some ⟨h.b, h.o, none⟩))) := fun X hX k h hk => by
    obtain ⟨va', vc', e0, _, hf⟩ := ho.form
    simp only [Value.slice.injEq] at e0
    obtain ⟨rfl, _, rfl⟩ := e0
    rcases hf with e | ⟨g, e, hge, hg, hc⟩
    · rw [e] at hk; simp at hk
    · refine ⟨g, e, ?_⟩
      rw [hX.cell g k hg (fun hm => ?_)]
      · exact hc k h hk
      · have hv := HB2.out.size
        rcases List.mem_append.1 hm with hm | hm
        · have := HCT.out.o.t.lt hm; omega
        · have := HCT.out.o.k.lt hm; omega
  have HLEN : Hid ((hdl2 b1 b2 m1 m2).length = n) := by
    show _ = _
    unfold hdl2
    rw [List.length_append, hdlsA_len, hdlsA_len, HMN.out.1, HMN.out.2, hnn]
  clear hb3 ho CA HB2
  go_wp2_with fail
  go_loopw [16] (fun i wr => ∃ k : Nat, k ≤ n ∧ i = .int .i64 (k : Int) ∧ StoLV wr lo (.slice b1 M1 k1) (.slice b2 M2 k2) (turnP p softE k m1) (turnP p softE (k - m1.length) m2) ∧ Out (fp (.slice b1 M1 k1) m1 ++ fp (.slice b2 M2 k2) m2) w3 wr ∧ Below lo w3 wr) (fun i _ => n - (intOf i).toNat)
  case atStart => exact ⟨0, Nat.zero_le _, rfl, HST.out, Out.refl _ _, Below.refl _ _⟩
  case round =>
    obtain ⟨k, hk, rfl, hs, hou, hb⟩ := hrel
    clear HST
    have HWW : Hid (∀ X, Below lo w3 X → Below w.heap.size w X ∧ S4 X (w.heap.size + 1) (.int .i64 0) (.int .i64 0) (.slice none 0 0) (.slice none 0 0) ∧ w.heap.size + 1 < lo) := fun X hX => by
      have b1 := HCT.out.b.trans (HB3.out.mono HCT.out.b.size)
      have hl := HCT.out.lo1
      obtain ⟨q1, _, q2, q3⟩ := HKW.out w3 b1
      refine ⟨q1.trans (hX.mono (by omega)), ⟨by rw [hX.cell (p := ⟨w.heap.size + 1, 0, none⟩) (by simp only; omega)]; exact q2.c0, by rw [hX.cell (p := ⟨w.heap.size + 1, 1, none⟩) (by simp only; omega)]; exact q2.c1, by rw [hX.cell (p := ⟨w.heap.size + 1, 2, none⟩) (by simp only; omega)]; exact q2.c2, by rw [hX.cell (p := ⟨w.heap.size + 1, 3, none⟩) (by simp only; omega)]; exact q2.c3, fun o => by rw [hX.frozen (p := ⟨w.heap.size + 1, o, none⟩) (by simp only; omega)]; exact q2.fr o, Nat.lt_of_lt_of_le q2.lt hX.size⟩, by omega⟩
    by_cases hlt : k < n
    · obtain ⟨h, hr⟩ : ∃ r, (hdl2 b1 b2 m1 m2)[k]? = some r := ⟨(hdl2 b1 b2 m1 m2)[k]'(by have := HLEN.out; omega), List.getElem?_eq_getElem _⟩
      obtain ⟨g', rfl, p1⟩ := HAL.out wr hou k h hr
      have hx : h.x ∈ tl.map Prod.fst ++ kl.map Prod.fst := by
        have : h.x ∈ (hdl2 b1 b2 m1 m2).map Hdl.x := List.mem_map_of_mem (List.mem_of_getElem? hr)
        rw [hdl2_x, HCT.out.e1, HCT.out.e2] at this
        exact this
      have CP := HPF.out.1.call wr h (HPF.out.1.keep _ _ HPF.out.2.1 ((HWW.out wr hb).1.mono HPF.out.2.2)) (soft_step hs hr).1 (HTL.out h.x hx)
      have gk : (k : Int) < n := by omega
      have gk0 : (0 : Int) ≤ k := by omega
      have HNX : Hid (∀ X, Below wr.heap.size wr X → X.cell? ⟨h.b, h.o + 4 + 5, none⟩ = some (.bool h.x.b1) ∧ X.frozen? ⟨h.b, h.o + 4 + 5, none⟩ = false ∧ (p h.x = false → StoLV X lo (.slice b1 M1 k1) (.slice b2 M2 k2) (turnP p softE (k + 1) m1) (turnP p softE (k + 1 - m1.length) m2) ∧ Out (fp (.slice b1 M1 k1) m1 ++ fp (.slice b2 M2 k2) m2) w3 X ∧ Below lo w3 X) ∧ (p h.x = true → StoLV (X.setCell ⟨h.b, h.o + 4 + 5, none⟩ (.bool true)) lo (.slice b1 M1 k1) (.slice b2 M2 k2) (turnP p softE (k + 1) m1) (turnP p softE (k + 1 - m1.length) m2) ∧ Out (fp (.slice b1 M1 k1) m1 ++ fp (.slice b2 M2 k2) m2) w3 (X.setCell ⟨h.b, h.o + 4 + 5, none⟩ (.bool true)) ∧ Below lo w3 (X.setCell ⟨h.b, h.o + 4 + 5, none⟩ (.bool true)))) := fun X hX => by
        have st := soft_step (hs.below hX) hr
        have ouX := hou.trans (Out.below hX)
        have bX := hb.trans (hX.mono (by have := hb.size; have := HB3.out.size; have := HCT.out.lo2; omega))
        refine ⟨st.2.1, st.2.2.1, fun hp => ⟨st.2.2.2.2.2.1 hp, ouX, bX⟩, fun hp => ⟨st.2.2.2.2.2.2 hp, ouX.trans ((Out.set X h.b _ _).mono fun b hm => ?_), bX.setCell st.2.2.2.1 _⟩⟩
        simp at hm
        subst hm
        rcases st.2.2.2.2.1 with h1 | h1
        · exact List.mem_append_left _ h1
        · exact List.mem_append_right _ h1
      clear hs hou hb hr hx HAL HWW
      cases he : p h.x
      · rw [he] at CP
        have HA : Hid _ := fun X hX => (HNX.out X hX).2.2.1 he
        clear HNX he
        go_wp2_with (go_at_fn g; refine CP.mono ?_; rintro e w4 ⟨rfl, hb4⟩)
        go_roundw
        case rel => exact ⟨k + 1, by omega, by go_num, HA.out _ hb4⟩
        case measure => simp [intOf]; omega
      · rw [he] at CP
        have HA : Hid (∀ X, Below wr.heap.size wr X → X.cell? ⟨h.b, h.o + 4 + 5, none⟩ = some (.bool h.x.b1) ∧ X.frozen? ⟨h.b, h.o + 4 + 5, none⟩ = false ∧ _) := fun X hX => ⟨(HNX.out X hX).1, (HNX.out X hX).2.1, (HNX.out X hX).2.2.2 he⟩
        clear HNX he
        go_wp2_with (go_at_fn g; refine CP.mono ?_; rintro e w4 ⟨rfl, hb4⟩; obtain ⟨y9, yf, hnx⟩ := HA.out _ hb4; have HX : Hid _ := hnx; clear hnx)
        go_roundw
        case rel => exact ⟨k + 1, by omega, by go_num, HX.out⟩
        case measure => simp [intOf]; omega
    · have ek : k = n := by omega
      subst ek
      have ml1 := HMN.out.1
      have ml2 := HMN.out.2
      rw [turnP_all (by omega), turnP_all (by omega)] at hs
      have sT : S4 wr T (.int .i64 bu) (.int .i64 gu) (.slice b1 M1 k1) (.slice b2 M2 k2) := by
        have s3 := HCT.out.s.keep HB3.out
        have nT : T ∉ fp (.slice b1 M1 k1) m1 ++ fp (.slice b2 M2 k2) m2 := fun hm => by
          rcases List.mem_append.1 hm with hm | hm
          · exact HCT.out.t1 hm
          · exact HCT.out.t2 hm
        exact ⟨by rw [hou.cell T 0 s3.lt nT]; exact s3.c0, by rw [hou.cell T 1 s3.lt nT]; exact s3.c1, by rw [hou.cell T 2 s3.lt nT]; exact s3.c2, by rw [hou.cell T 3 s3.lt nT]; exact s3.c3, fun o => by rw [hou.frozen T o s3.lt nT]; exact s3.fr o, Nat.lt_of_lt_of_le s3.lt hou.size⟩
      obtain ⟨bw, s4, hlo⟩ := HWW.out wr hb
      have HO : Hid (StoLV wr lo (.slice b1 M1 k1) (.slice b2 M2 k2) (turnM p softE m1) (turnM p softE m2) ∧ w.heap.size + 1 < lo ∧ Below w.heap.size w wr ∧ (turnM p softE m1).map Prod.fst = turnE p softE (tl.map Prod.fst) ∧ (turnM p softE m2).map Prod.fst = turnE p softE (kl.map Prod.fst)) := ⟨hs, hlo, bw, by rw [turnM_fst, HCT.out.e1], by rw [turnM_fst, HCT.out.e2]⟩
      have y0 := sT.c0
      have y1 := sT.c1
      have y2 := sT.c2
      have y3 := sT.c3
      have z0 := s4.c0
      have z1 := s4.c1
      have z2 := s4.c2
      have z3 := s4.c3
      have zf0 := s4.fr 0
      have zf1 := s4.fr 1
      have zf2 := s4.fr 2
      have zf3 := s4.fr 3
      clear s4 sT hs hou hb bw HWW HAL HPF ml1 ml2
      go_wp2_with fail
      refine bodyPost_ret (v := .agg #[.int .i64 bu, .int .i64 gu, .slice b1 M1 k1, .slice b2 M2 k2]) (by simp [results, Tryz.results159, go_sem, z0, z1, z2, z3]) rfl ?_
      obtain ⟨o, hlt, hB, x1, x2⟩ := HO.out
      exact ⟨⟨b1, k1, M1, b2, k2, M2, _, _, rfl, x1, x2, ((((o.off1 _ hlt).off1 _ hlt).off1 _ hlt).off1 _ hlt).lower (by omega)⟩, (((hB.setCell (by simp) _).setCell (by simp) _).setCell (by simp) _).setCell (by simp) _⟩
end Go.Proofs.YtjfjfhoihhmbgaaGreatDoor
/-
  The model's keys of all entries, of one key; purges as a whole, by the model.
-/
namespace Go.Proofs.YtjfjfhoihhmbgaaGreatDoor
open Go.ChangeShapes Go.WideShapes Go.ChangeAt Go.RowKit Go.Sort
def anyP (_ : Ent) : Bool := true
theorem keysP_none {p : Ent → Bool} {L : List Ent} (h : ∀ x ∈ L, p x = false) : keysP p L = [] := by
  unfold keysP
  rw [List.filter_eq_nil_iff.2 (fun x hx => by simp [h x hx])]
  rfl
theorem keysP_key {key : ByteArray} {L : List Ent} {x : Ent} (hn : NdK L) (hx : L.find? (isKey key) = some x) : keysP (isKey key) L = [key] := by
  obtain ⟨hk, A, B, rfl, hA⟩ := List.find?_eq_some_iff_append.1 hx
  have e : x.key = key := by rw [isKey_iff] at hk; simpa using (of_decide_eq_true hk).symm
  have hB : ∀ y ∈ B, isKey key y = false := fun y hy => by
    by_cases c : isKey key y = true
    · have h2 : NdK ([x] ++ B) := (NdK.app hn).2.1
      exact absurd (isKey_eq hk c) ((NdK.app h2).2.2 x (by simp) y hy)
    · simpa using c
  unfold keysP
  rw [List.filter_append, List.filter_cons_of_pos hk, List.filter_eq_nil_iff.2 (fun a ha => by have := hA a ha; simpa using this), List.filter_eq_nil_iff.2 (fun y hy => by simp [hB y hy])]
  simp [e]
theorem RowT.one (w : World) (base : Nat) (t : ByteArray) (hb : base ≤ w.heap.size) : RowT (w.alloc (.cells #[.string t] 9)) base (.slice (some ⟨w.heap.size, 0, none⟩) 1 1) [t] := by
  refine ⟨rfl, .inr ⟨w.heap.size, 1, #[.string t], rfl, hb, heap_alloc_new w _, Nat.le_refl _, by unfold maxLen; omega, rfl, rfl⟩⟩
def resM (hard : Bool) (ks : List ByteArray) (m : List (Ent × EntR)) : List (Ent × EntR) := if hard then offKs ks m else turnM (inK ks) softE m
def resE (hard : Bool) (q : Ent → Bool) (L : List Ent) : List Ent := if hard then L.filter (fun x => !q x) else turnE q softE L
theorem resM_map (hard : Bool) (ks : List ByteArray) (m : List (Ent × EntR)) : (resM hard ks m).map Prod.fst = resE hard (inK ks) (m.map Prod.fst) := by
  cases hard
  · exact turnM_fst _ _ _
  · exact offKs_map _ _
theorem TLV.low {w w' : World} {B : Nat} {v : Value} {l : List ByteArray} (h : TLV w v l) (hb : ∀ b, v.ownBlock = some b → b < B) (k : Below B w w') : TLV w' v l := by
  rcases h with h | ⟨g, c, rfl, hg, hi, hf⟩
  · exact .inl h
  · have hB := hb g rfl
    exact .inr ⟨g, c, rfl, Nat.lt_of_lt_of_le hg k.size, fun i q hq => by rw [k.cell (p := ⟨g, 0 + i, none⟩) hB]; exact hi i q hq, fun o => by rw [k.frozen (p := ⟨g, o, none⟩) hB]; exact hf o⟩
theorem TLV.at_in {w : World} {a : Option Addr} {n c : Nat} {l : List ByteArray} (h : TLV w (.slice a n c) l) : n = l.length ∧ TIn w a l := by
  obtain ⟨a', c', e, hi⟩ := h.tin
  simp only [Value.slice.injEq] at e
  obtain ⟨rfl, rfl, rfl⟩ := e
  exact ⟨rfl, hi⟩
theorem l9Purge_at (w : World) (B base : Nat) (bu gu : Int) (a1 a2 : Option Addr) (n1 k1 n2 k2 : Nat) (l1 l2 : List (Ent × EntR)) (a : Option Addr) (n kc : Nat) (ks : List ByteArray) (hard : Bool) (hks : ks.length ≤ 1000) (hs : S4 w B (.int .i64 bu) (.int .i64 gu) (.slice a1 n1 k1) (.slice a2 n2 k2)) (h : StoO w base (.slice a1 n1 k1) (.slice a2 n2 k2) l1 l2) (hbase : base ≤ w.heap.size) (hbB : base ≤ B) (hB1 : B ∉ fp (.slice a1 n1 k1) l1) (hB2 : B ∉ fp (.slice a2 n2 k2) l2) (z1 : l1.length ≤ 1000) (z2 : l2.length ≤ 1000) (hk : TLV w (.slice a n kc) ks) (hkb : ∀ b, (Value.slice a n kc).ownBlock = some b → b < base) :
    Calls Tryz.prog 162 #[.pointer (some ⟨B, 0, none⟩), .slice a n kc, .bool hard] w fun e w' => e = .returned (.tuple #[]) ∧ (∃ a1 k1 n1 a2 k2 n2, S4 w' B (.int .i64 bu) (.int .i64 gu) (.slice a1 n1 k1) (.slice a2 n2 k2) ∧ StoLV w' base (.slice a1 n1 k1) (.slice a2 n2 k2) (resM hard ks l1) (resM hard ks l2)) ∧ Below base w w' := by
  obtain ⟨rfl, _⟩ := hk.at_in
  have hk' : ∀ X, Below base w X → TIn X a ks := fun X hX => (hk.low hkb hX).at_in.2
  cases hard
  · refine (l9SoftS_at w B base bu gu a1 a2 n1 k1 n2 k2 l1 l2 a kc ks hks hs h.lv hbase hB1 hB2 z1 z2 hk').mono ?_
    rintro e w' ⟨h1, ⟨h2, h3⟩, h4⟩
    exact ⟨h1, ⟨a1, k1, n1, a2, k2, n2, h2, h3⟩, h4⟩
  · exact l9Hard_at w B base bu gu _ _ l1 l2 a kc ks hks hs h hbase hbB hB1 hB2 (by omega) (by omega) hk'
set_option maxRecDepth 100000 in
set_option maxHeartbeats 16000000 in
theorem l9Do_at (w : World) (S kb : Nat) (bu gu : Int) (ta ka : Option Addr) (tc kc : Nat) (tl kl : List (Ent × EntR)) (a : Option Addr) (n c : Nat) (ks : List ByteArray) (hard : Bool) (hs : S4 w S (.int .i64 bu) (.int .i64 gu) (.slice ta tl.length tc) (.slice ka kl.length kc)) (hl : tl.length + kl.length ≤ 40) (f1 : ∀ q ∈ tl ++ kl, EntFit q.1) (ht : EntsIn w ta tl) (hq : EntsIn w ka kl) (hks : ks.length ≤ 1000) (hr : RowT w kb (.slice a n c) ks) (hkb : kb ≤ w.heap.size) :
    Calls Tryz.prog 118 #[.pointer (some ⟨S, 0, none⟩), .slice a n c, .bool hard] w fun e w' => PurAns ⟨0, bu, gu, resE hard (inK ks) (tl.map Prod.fst), resE hard (inK ks) (kl.map Prod.fst), ks⟩ kb e w' ∧ Below w.heap.size w w' := by
  obtain ⟨W, hW⟩ : ∃ W, W = w.alloc (.cells #[.int .i64 0, .int .i64 0, .int .i64 0, .slice none 0 0, .slice none 0 0, .slice none 0 0] 81) := ⟨_, rfl⟩
  have HW : Hid (W = w.alloc (.cells #[.int .i64 0, .int .i64 0, .int .i64 0, .slice none 0 0, .slice none 0 0, .slice none 0 0] 81)) := hW
  have bW : Below w.heap.size w W := by rw [hW]; exact (Below.refl _ _).alloc (Nat.le_refl _) _
  have sS := hs.keep bW
  have tlv := hr.lv.1
  have tlt : ∀ b, (Value.slice a n c).ownBlock = some b → b < w.heap.size := fun b e => tlv.block_lt b e
  have K0 : Hid (Below w.heap.size w W ∧ S6 W w.heap.size (.int .i64 0) (.int .i64 0) (.int .i64 0) (.slice none 0 0) (.slice none 0 0) (.slice none 0 0) ∧ W.heap.size = w.heap.size + 1) := ⟨bW, by rw [hW]; exact S6.new w _ _ _ _ _ _ _, by rw [hW]; simp⟩
  have CC : Hid (Calls Tryz.prog 70 #[.pointer (some ⟨S, 0, none⟩)] W fun e w' => (∃ a1 k1 n1 a2 k2 n2 m1 m2, e = .returned (.agg #[.int .i64 bu, .int .i64 gu, .slice a1 n1 k1, .slice a2 n2 k2]) ∧ m1.map Prod.fst = tl.map Prod.fst ∧ m2.map Prod.fst = kl.map Prod.fst ∧ StoO w' W.heap.size (.slice a1 n1 k1) (.slice a2 n2 k2) m1 m2) ∧ Below W.heap.size W w') := by
    refine (l8Copy_at W S bu gu ta ka tc kc tl kl ⟨sS.c0, sS.c1, sS.c2, sS.c3⟩ sS.lt (by omega) (by omega) (fun q h => f1 q (List.mem_append.2 (.inl h))) (fun q h => f1 q (List.mem_append.2 (.inr h))) (ht.keep bW) (hq.keep bW)).mono ?_
    rintro e w' ⟨⟨v1, v2, m1, m2, rfl, q1, q2, o⟩, hb⟩
    obtain ⟨a1, k1, rfl, _⟩ := row_form o.t.own
    obtain ⟨a2, k2, rfl, _⟩ := row_form o.k.own
    exact ⟨⟨a1, k1, _, a2, k2, _, m1, m2, rfl, q1, q2, o⟩, hb⟩
  have HT : Hid (∀ X, Below w.heap.size w X → TLV X (.slice a n c) ks) := fun X hX => tlv.low (B := w.heap.size) tlt hX
  have HTB : Hid (∀ b, (Value.slice a n c).ownBlock = some b → kb ≤ b ∧ b < w.heap.size) := fun b e => ⟨hr.lv.2 b e, tlt b e⟩
  have HL : Hid (tl.length + kl.length ≤ 40 ∧ ks.length ≤ 1000 ∧ kb ≤ w.heap.size) := ⟨hl, hks, hkb⟩
  clear hW bW sS tlv tlt hs hl f1 ht hq hks hr hkb
  go_enter Tryz.func118, Tryz.ntmps118
  go_wp2_with fail
  rw [← HW.out]
  refine CC.out.mono ?_
  rintro r0 w1 ⟨⟨a1, k1, n1, a2, k2, n2, m1, m2, rfl, q1, q2, o⟩, hb1⟩
  obtain ⟨V1, hV1⟩ : ∃ V, V = w1.alloc (.cells #[.int .i64 bu, .int .i64 gu, .slice a1 n1 k1, .slice a2 n2 k2] 28) := ⟨_, rfl⟩
  have HV1 : Hid (V1 = w1.alloc (.cells #[.int .i64 bu, .int .i64 gu, .slice a1 n1 k1, .slice a2 n2 k2] 28)) := hV1
  have aV : Below w1.heap.size w1 V1 := by rw [hV1]; exact (Below.refl _ _).alloc (Nat.le_refl _) _
  have bV : Below W.heap.size W V1 := hb1.trans (aV.mono hb1.size)
  have bw : Below w.heap.size w V1 := K0.out.1.trans (bV.mono K0.out.1.size)
  have sV : S4 V1 w1.heap.size (.int .i64 bu) (.int .i64 gu) (.slice a1 n1 k1) (.slice a2 n2 k2) := by rw [hV1]; exact S4.new w1 _ _ _ _ _
  have ln1 : m1.length = tl.length := by have := congrArg List.length q1; simpa using this
  have ln2 : m2.length = kl.length := by have := congrArg List.length q2; simpa using this
  have hln := HL.out
  have hz := K0.out.2.2
  have CP : Hid _ := l9Purge_at V1 w1.heap.size W.heap.size bu gu a1 a2 n1 k1 n2 k2 m1 m2 a n c ks hard hln.2.1 sV (o.below aV) bV.size hb1.size (fun h => by have := o.t.lt h; omega) (fun h => by have := o.k.lt h; omega) (by omega) (by omega) (HT.out V1 bw) (fun b e => by have := (HTB.out b e).2; omega)
  have K1 : Hid (Below w.heap.size w V1 ∧ S6 V1 w.heap.size (.int .i64 0) (.int .i64 0) (.int .i64 0) (.slice none 0 0) (.slice none 0 0) (.slice none 0 0) ∧ W.heap.size = w.heap.size + 1) := ⟨bw, K0.out.2.1.keep bV, hz⟩
  have HM : Hid ((resM hard ks m1).map Prod.fst = resE hard (inK ks) (tl.map Prod.fst) ∧ (resM hard ks m2).map Prod.fst = resE hard (inK ks) (kl.map Prod.fst)) := ⟨by rw [resM_map, q1], by rw [resM_map, q2]⟩
  clear hV1 aV bV bw sV hb1 K0 o q1 q2 ln1 ln2 CC HW hln hz
  go_wp2_with fail
  rw [← HV1.out]
  refine Calls.mono CP.out ?_
  rintro e0 w2 ⟨rfl, ⟨a3, k3, n3, a4, k4, n4, s2, o2⟩, hb2⟩
  have hs6 : S6 w2 w.heap.size (.int .i64 0) (.int .i64 0) (.int .i64 0) (.slice none 0 0) (.slice none 0 0) (.slice none 0 0) := K1.out.2.1.low hb2 (by have := K1.out.2.2; omega)
  have HB : Hid (Below w.heap.size w w2) := K1.out.1.trans (hb2.mono (by have := K1.out.2.2; omega))
  have HO2 : Hid (StoLV w2 W.heap.size (.slice a3 n3 k3) (.slice a4 n4 k4) (resM hard ks m1) (resM hard ks m2) ∧ w.heap.size < W.heap.size) := ⟨o2, by have := K1.out.2.2; omega⟩
  have z0 := hs6.c0
  have z1 := hs6.c1
  have z2 := hs6.c2
  have z3 := hs6.c3
  have z4 := hs6.c4
  have z5 := hs6.c5
  have zf0 := hs6.fr 0
  have zf1 := hs6.fr 1
  have zf2 := hs6.fr 2
  have zf3 := hs6.fr 3
  have zf4 := hs6.fr 4
  have zf5 := hs6.fr 5
  have y0 := s2.c0
  have y1 := s2.c1
  have y2 := s2.c2
  have y3 := s2.c3
  clear hs6 s2 o2 hb2 K1 CP HV1
  go_wp2_with fail
  refine bodyPost_ret (v := .agg #[.int .i64 0, .int .i64 bu, .int .i64 gu, .slice a3 n3 k3, .slice a4 n4 k4, .slice a n c]) (by simp [results, Tryz.results118, go_sem, z0, z1, z2, z3, z4, z5]) rfl ?_
  have hlt := HO2.out.2
  have hB := (((((HB.out.setCell (p := ⟨w.heap.size, 0, none⟩) (Nat.le_refl _) (.int .i64 0)).setCell (p := ⟨w.heap.size, 1, none⟩) (Nat.le_refl _) (.int .i64 bu)).setCell (p := ⟨w.heap.size, 2, none⟩) (Nat.le_refl _) (.int .i64 gu)).setCell (p := ⟨w.heap.size, 3, none⟩) (Nat.le_refl _) (.slice a3 n3 k3)).setCell (p := ⟨w.heap.size, 4, none⟩) (Nat.le_refl _) (.slice a4 n4 k4)).setCell (p := ⟨w.heap.size, 5, none⟩) (Nat.le_refl _) (.slice a n c)
  have hO := ((((((HO2.out.1.off1 (i := 0) (.int .i64 0) hlt).off1 (i := 1) (.int .i64 bu) hlt).off1 (i := 2) (.int .i64 gu) hlt).off1 (i := 3) (.slice a3 n3 k3) hlt).off1 (i := 4) (.slice a4 n4 k4) hlt).off1 (i := 5) (.slice a n c) hlt)
  have hkw := HL.out.2.2
  exact ⟨PurAns.got hO (by omega) HM.out.1 HM.out.2 (HT.out _ hB) (fun q e => ⟨(HTB.out q e).1, fun hm => by have := hO.t.ge hm; have := (HTB.out q e).2; omega, fun hm => by have := hO.k.ge hm; have := (HTB.out q e).2; omega⟩), hB⟩
end Go.Proofs.YtjfjfhoihhmbgaaGreatDoor
/-
  PurgeKey, PurgeTag, PurgeAll, by the model.
-/
namespace Go.Proofs.YtjfjfhoihhmbgaaGreatDoor
open Go.ChangeShapes Go.WideShapes Go.ChangeAt Go.RowKit Go.Sort
open Classical in
noncomputable def purA (bu gu : Int) (tl kl : List Ent) (p : Ent → Bool) (hard : Bool) : QAns :=
  if storeC bu gu tl kl ≠ 0 then badQ (storeC bu gu tl kl) else ⟨0, bu, gu, resE hard p tl, resE hard p kl, keysP p (tl ++ kl)⟩
theorem key_same {L : List Ent} (hn : NdK L) {x y : Ent} (hx : x ∈ L) (hy : y ∈ L) (e : x.key = y.key) : x = y := by
  unfold NdK keysE at hn
  obtain ⟨i, hi, rfl⟩ := List.mem_iff_getElem.1 hx
  obtain ⟨j, hj, rfl⟩ := List.mem_iff_getElem.1 hy
  have := (List.getElem_inj (xs := L.map fun x => x.key.toList) (h₀ := by simpa using hi) (h₁ := by simpa using hj) hn).1 (by simp [e])
  subst this
  rfl
theorem inK_keysP {p : Ent → Bool} {L : List Ent} (hn : NdK L) {x : Ent} (hx : x ∈ L) : inK (keysP p L) x = p x := by
  unfold inK tagB keysP
  rw [List.any_map]
  cases hp : p x
  · rw [← Bool.not_eq_true]
    intro h
    obtain ⟨y, hy, e⟩ := List.any_eq_true.1 h
    obtain ⟨hy1, hy2⟩ := List.mem_filter.1 hy
    have e' : y.key = x.key := by simpa using e
    rw [key_same hn hy1 hx e'] at hy2
    rw [hp] at hy2
    cases hy2
  · exact List.any_eq_true.2 ⟨x, List.mem_filter.2 ⟨hx, hp⟩, by simp⟩
theorem resE_congr {hard : Bool} {p q : Ent → Bool} {L : List Ent} (h : ∀ x ∈ L, p x = q x) : resE hard p L = resE hard q L := by
  cases hard
  · exact List.map_congr_left fun x hx => by simp [h x hx]
  · exact List.filter_congr fun x hx => by simp [h x hx]
theorem resE_keys {hard : Bool} {p : Ent → Bool} {tl kl : List Ent} (hn : NdK (tl ++ kl)) : resE hard (inK (keysP p (tl ++ kl))) tl = resE hard p tl ∧ resE hard (inK (keysP p (tl ++ kl))) kl = resE hard p kl :=
  ⟨resE_congr fun _ hx => inK_keysP hn (List.mem_append_left _ hx), resE_congr fun _ hx => inK_keysP hn (List.mem_append_right _ hx)⟩
theorem PurAns.off6 {w' : World} {A : QAns} {base b : Nat} {r : QR} (h : QSto w' base w'.heap.size r A.t A.k A.g) (hb : b < base) (u0 u1 u2 u3 u4 u5 : Value) : QSto ((((((w'.setCell ⟨b, 0, none⟩ u0).setCell ⟨b, 1, none⟩ u1).setCell ⟨b, 2, none⟩ u2).setCell ⟨b, 3, none⟩ u3).setCell ⟨b, 4, none⟩ u4).setCell ⟨b, 5, none⟩ u5) base ((((((w'.setCell ⟨b, 0, none⟩ u0).setCell ⟨b, 1, none⟩ u1).setCell ⟨b, 2, none⟩ u2).setCell ⟨b, 3, none⟩ u3).setCell ⟨b, 4, none⟩ u4).setCell ⟨b, 5, none⟩ u5).heap.size r A.t A.k A.g := by
  obtain ⟨m1, m2, e1, e2, h1, h2, h3, h4⟩ := h
  have hO := ((((((h1.off1 (i := 0) u0 hb).off1 (i := 1) u1 hb).off1 (i := 2) u2 hb).off1 (i := 3) u3 hb).off1 (i := 4) u4 hb).off1 (i := 5) u5 hb)
  have o : Out [b] w' ((((((w'.setCell ⟨b, 0, none⟩ u0).setCell ⟨b, 1, none⟩ u1).setCell ⟨b, 2, none⟩ u2).setCell ⟨b, 3, none⟩ u3).setCell ⟨b, 4, none⟩ u4).setCell ⟨b, 5, none⟩ u5) := (((((Out.set w' b 0 u0).trans (Out.set _ b 1 u1)).trans (Out.set _ b 2 u2)).trans (Out.set _ b 3 u3)).trans (Out.set _ b 4 u4)).trans (Out.set _ b 5 u5)
  exact QSto.mk e1 e2 hO (h3.out o (fun q e hm => by simp at hm; subst hm; have := (h4 _ e).1; omega)) (fun q e => ⟨(h4 q e).1, (h4 q e).2.2.1, (h4 q e).2.2.2⟩)
theorem QSto.lower {W : World} {b0 base hi : Nat} {r : QR} {L1 L2 : List Ent} {G : List ByteArray} (h : QSto W base hi r L1 L2 G) (hb : b0 ≤ base) : QSto W b0 hi r L1 L2 G := by
  obtain ⟨m1, m2, e1, e2, h1, h2, h3, h4⟩ := h
  exact ⟨m1, m2, e1, e2, h1.lower hb, h2, h3, fun b e => ⟨Nat.le_trans hb (h4 b e).1, (h4 b e).2⟩⟩
set_option maxRecDepth 100000 in
set_option maxHeartbeats 16000000 in
theorem specPurgeTag_any (w : World) (bu gu : Int) (ta ka : Option Addr) (tc kc : Nat) (tl kl : List (Ent × EntR)) (tag : ByteArray) (hard : Bool) (hl : tl.length ≤ 1048576) (hk : kl.length ≤ 1048576) (hto : ∀ q ∈ tl ++ kl, EntOk q.1) (hft : ∀ q ∈ tl ++ kl, EntFit q.1) (ht : EntsIn w ta tl) (hq : EntsIn w ka kl) :
    Calls Tryz.prog 50 #[.agg #[.int .i64 bu, .int .i64 gu, .slice ta tl.length tc, .slice ka kl.length kc], .string tag, .bool hard] w fun e w' => PurAns (purA bu gu (tl.map Prod.fst) (kl.map Prod.fst) (tagP tag) hard) w.heap.size e w' ∧ Below w.heap.size w w' := by
  have HF : Hid (∀ X, Below w.heap.size w X → Calls Tryz.prog 33 #[.agg #[.int .i64 bu, .int .i64 gu, .slice ta tl.length tc, .slice ka kl.length kc]] X fun r w' => r = .returned (.int .i64 (storeC bu gu (tl.map Prod.fst) (kl.map Prod.fst))) ∧ Below X.heap.size X w') := fun X hb => specSto_any X bu gu ta ka tc kc tl kl hl hk hto (ht.keep hb) (hq.keep hb)
  have HT : Hid (storeC bu gu (tl.map Prod.fst) (kl.map Prod.fst) = 0 → ∀ X, Below w.heap.size w X → X.cell? ⟨w.heap.size, 2, none⟩ = some (.slice ta tl.length tc) → X.cell? ⟨w.heap.size, 3, none⟩ = some (.slice ka kl.length kc) → Calls Tryz.prog 119 #[.pointer (some ⟨w.heap.size, 0, none⟩), .string tag] X fun e w' => (∃ a n k, e = .returned (.slice a n k) ∧ RowT w' X.heap.size (.slice a n k) (keysP (tagP tag) (tl.map Prod.fst ++ kl.map Prod.fst))) ∧ Below X.heap.size X w') := fun h0 X hX c2 c3 => by
    have hln : tl.length + kl.length ≤ 1000000 := by have := (storeC_zero h0).2.1; rw [List.length_map, List.length_map] at this; omega
    refine (l9Tagged_at X w.heap.size tag ta ka tc kc tl kl c2 c3 hln hft (ht.keep hX) (hq.keep hX)).mono ?_
    rintro e w' ⟨⟨v, rfl, ho⟩, hb⟩
    obtain ⟨va, vc, rfl, _⟩ := row_form ho
    exact ⟨⟨va, _, vc, rfl, ho⟩, hb⟩
  have HD : Hid (storeC bu gu (tl.map Prod.fst) (kl.map Prod.fst) = 0 → ∀ X kb a n k, Below w.heap.size w X → S4 X w.heap.size (.int .i64 bu) (.int .i64 gu) (.slice ta tl.length tc) (.slice ka kl.length kc) → RowT X kb (.slice a n k) (keysP (tagP tag) (tl.map Prod.fst ++ kl.map Prod.fst)) → kb ≤ X.heap.size → Calls Tryz.prog 118 #[.pointer (some ⟨w.heap.size, 0, none⟩), .slice a n k, .bool hard] X fun e w' => (∃ r : QR, e = .returned (.agg #[.int .i64 0, .int .i64 bu, .int .i64 gu, .slice r.s.a1 r.s.n1 r.s.k1, .slice r.s.a2 r.s.n2 r.s.k2, .slice r.a3 r.n3 r.k3]) ∧ QSto w' kb w'.heap.size r (resE hard (tagP tag) (tl.map Prod.fst)) (resE hard (tagP tag) (kl.map Prod.fst)) (keysP (tagP tag) (tl.map Prod.fst ++ kl.map Prod.fst))) ∧ Below X.heap.size X w') := fun h0 X kb a n k hX hs hr hkb => by
    have hln : tl.length + kl.length ≤ 40 := by have := (storeC_zero h0).2.1; rw [List.length_map, List.length_map] at this; omega
    have hkl : (keysP (tagP tag) (tl.map Prod.fst ++ kl.map Prod.fst)).length ≤ 1000 := by
      have := keysP_len (tagP tag) (tl.map Prod.fst ++ kl.map Prod.fst)
      rw [List.length_append, List.length_map, List.length_map] at this
      omega
    have := l9Do_at X w.heap.size kb bu gu ta ka tc kc tl kl a n k _ hard hs hln hft (ht.keep hX) (hq.keep hX) hkl hr hkb
    rw [(resE_keys (storeC_nd h0)).1, (resE_keys (storeC_nd h0)).2] at this
    exact this
  obtain ⟨W, hW⟩ : ∃ W, W = (w.alloc (.cells #[.int .i64 bu, .int .i64 gu, .slice ta tl.length tc, .slice ka kl.length kc] 28)).alloc (.cells #[.int .i64 0, .int .i64 0, .int .i64 0, .slice none 0 0, .slice none 0 0, .slice none 0 0] 81) := ⟨_, rfl⟩
  have HW : Hid (W = (w.alloc (.cells #[.int .i64 bu, .int .i64 gu, .slice ta tl.length tc, .slice ka kl.length kc] 28)).alloc (.cells #[.int .i64 0, .int .i64 0, .int .i64 0, .slice none 0 0, .slice none 0 0, .slice none 0 0] 81)) := hW
  have K0 : Hid (Below w.heap.size w W ∧ S4 W w.heap.size (.int .i64 bu) (.int .i64 gu) (.slice ta tl.length tc) (.slice ka kl.length kc) ∧ S6 W (w.heap.size + 1) (.int .i64 0) (.int .i64 0) (.int .i64 0) (.slice none 0 0) (.slice none 0 0) (.slice none 0 0) ∧ w.heap.size + 2 ≤ W.heap.size) := by
    rw [hW]
    refine ⟨((Below.refl _ _).alloc (Nat.le_refl _) _).alloc (by simp) _, (S4.new w _ _ _ _ _).keep ((Below.refl _ _).alloc (Nat.le_refl _) _), ?_, by simp⟩
    have := S6.new (w.alloc (.cells #[.int .i64 bu, .int .i64 gu, .slice ta tl.length tc, .slice ka kl.length kc] 28)) (.int .i64 0) (.int .i64 0) (.int .i64 0) (.slice none 0 0) (.slice none 0 0) (.slice none 0 0) 81
    simpa using this
  obtain ⟨A, hA⟩ : ∃ A, purA bu gu (tl.map Prod.fst) (kl.map Prod.fst) (tagP tag) hard = A := ⟨_, rfl⟩
  rw [hA]
  unfold purA at hA
  have HA : Hid (_ = A) := hA
  have e0 := K0.out.2.1.c0
  have e1 := K0.out.2.1.c1
  have e2 := K0.out.2.1.c2
  have e3 := K0.out.2.1.c3
  rw [HW.out] at e0 e1 e2 e3
  clear hW hl hk hto hft ht hq hA
  generalize storeC bu gu (tl.map Prod.fst) (kl.map Prod.fst) = sc at *
  generalize resE hard (tagP tag) (tl.map Prod.fst) = R1 at *
  generalize resE hard (tagP tag) (kl.map Prod.fst) = R2 at *
  generalize keysP (tagP tag) (tl.map Prod.fst ++ kl.map Prod.fst) = KS at *
  generalize tl.length = tn at *
  generalize kl.length = kn at *
  go_enter Tryz.func50, Tryz.ntmps50
  go_wp2_with fail
  rw [← HW.out]
  refine (HF.out _ K0.out.1).mono ?_
  rintro r0 w1 ⟨rfl, hb1⟩
  have K1 : Hid (Below w.heap.size w w1 ∧ S4 w1 w.heap.size (.int .i64 bu) (.int .i64 gu) (.slice ta tn tc) (.slice ka kn kc) ∧ S6 w1 (w.heap.size + 1) (.int .i64 0) (.int .i64 0) (.int .i64 0) (.slice none 0 0) (.slice none 0 0) (.slice none 0 0) ∧ w.heap.size + 2 ≤ w1.heap.size) := ⟨K0.out.1.trans (hb1.mono K0.out.1.size), K0.out.2.1.keep hb1, K0.out.2.2.1.keep hb1, by have := K0.out.2.2.2; have := hb1.size; omega⟩
  clear K0 HW hb1 HF e0 e1 e2 e3
  by_cases cs : sc = 0
  · subst cs
    have HAe : Hid (A = ⟨0, bu, gu, R1, R2, KS⟩) := by have := HA.out; simp only [ne_eq, not_true_eq_false, if_false] at this; exact this.symm
    have HT1 := HT.out rfl
    have HD1 := HD.out rfl
    clear HA HT HD
    go_wp2_with fail
    refine (HT1 _ K1.out.1 K1.out.2.1.c2 K1.out.2.1.c3).mono ?_
    rintro r0 w2 ⟨⟨a, n, k, rfl, ho⟩, hb2⟩
    have CD := HD1 w2 w1.heap.size a n k (K1.out.1.trans (hb2.mono K1.out.1.size)) (K1.out.2.1.keep hb2) ho hb2.size
    have K2 : Hid (Below w.heap.size w w2 ∧ S6 w2 (w.heap.size + 1) (.int .i64 0) (.int .i64 0) (.int .i64 0) (.slice none 0 0) (.slice none 0 0) (.slice none 0 0) ∧ w.heap.size + 2 ≤ w1.heap.size) := ⟨K1.out.1.trans (hb2.mono K1.out.1.size), K1.out.2.2.1.keep hb2, K1.out.2.2.2⟩
    clear K1 HT1 HD1 ho hb2
    go_wp2_with fail
    refine CD.mono ?_
    rintro r0 w3 ⟨⟨r, rfl, hQ⟩, hb3⟩
    have HQ : Hid (QSto w3 w1.heap.size w3.heap.size r R1 R2 KS) := hQ
    have HB : Hid (Below w.heap.size w w3 ∧ w.heap.size + 1 < w1.heap.size) := ⟨K2.out.1.trans (hb3.mono K2.out.1.size), by have := K2.out.2.2; omega⟩
    have hs6 := K2.out.2.1.keep hb3
    have z0 := hs6.c0
    have z1 := hs6.c1
    have z2 := hs6.c2
    have z3 := hs6.c3
    have z4 := hs6.c4
    have z5 := hs6.c5
    have zf0 := hs6.fr 0
    have zf1 := hs6.fr 1
    have zf2 := hs6.fr 2
    have zf3 := hs6.fr 3
    have zf4 := hs6.fr 4
    have zf5 := hs6.fr 5
    clear hs6 hQ hb3 K2 CD
    go_wp2_with fail
    refine bodyPost_ret (v := .agg #[.int .i64 0, .int .i64 bu, .int .i64 gu, .slice r.s.a1 r.s.n1 r.s.k1, .slice r.s.a2 r.s.n2 r.s.k2, .slice r.a3 r.n3 r.k3]) (by simp [results, Tryz.results50, go_sem, z0, z1, z2, z3, z4, z5]) rfl ?_
    refine ⟨PurAns.of ⟨r, rfl, QSto.lower (PurAns.off6 (A := ⟨0, bu, gu, R1, R2, KS⟩) HQ.out HB.out.2 _ _ _ _ _ _) (by have := HB.out.2; omega)⟩ HAe.out, ?_⟩
    exact (((((HB.out.1.setCell (by simp) _).setCell (by simp) _).setCell (by simp) _).setCell (by simp) _).setCell (by simp) _).setCell (by simp) _
  · have HAe : Hid (A = badQ sc) := by have := HA.out; rw [if_pos cs] at this; exact this.symm
    have z0 := K1.out.2.2.1.c0
    have z1 := K1.out.2.2.1.c1
    have z2 := K1.out.2.2.1.c2
    have z3 := K1.out.2.2.1.c3
    have z4 := K1.out.2.2.1.c4
    have z5 := K1.out.2.2.1.c5
    have zf0 := K1.out.2.2.1.fr 0
    have zf1 := K1.out.2.2.1.fr 1
    have zf2 := K1.out.2.2.1.fr 2
    have zf3 := K1.out.2.2.1.fr 3
    have zf4 := K1.out.2.2.1.fr 4
    have zf5 := K1.out.2.2.1.fr 5
    have HB : Hid (Below w.heap.size w w1) := K1.out.1
    clear HA K1 HT HD
    go_wp2_with fail
    refine bodyPost_ret (v := .agg #[.int .i64 sc, .int .i64 0, .int .i64 0, .slice none 0 0, .slice none 0 0, .slice none 0 0]) (by simp [results, Tryz.results50, go_sem, z0, z1, z2, z3, z4, z5]) rfl ?_
    exact ⟨(PurAns.bad _ _ _).of HAe.out, (((((HB.out.setCell (by simp) _).setCell (by simp) _).setCell (by simp) _).setCell (by simp) _).setCell (by simp) _).setCell (by simp) _⟩
end Go.Proofs.YtjfjfhoihhmbgaaGreatDoor
/-
  PurgeKey, PurgeTag, PurgeAll, by the program.
-/
namespace Go.Proofs.YtjfjfhoihhmbgaaGreatDoor
open Go.ChangeShapes Go.WideShapes Go.ChangeAt Go.RowKit Go.Sort
set_option maxRecDepth 100000 in
set_option maxHeartbeats 16000000 in
theorem purge_any (w : World) (B0 g : Nat) (lb : Array Value) (p : Ent → Bool) (C : World → Prop) (bu gu : Int) (ta ka : Option Addr) (tc kc : Nat) (tl kl : List (Ent × EntR)) (hard : Bool) (PF : PredF B0 g lb p C) (hC : C w) (hB0 : B0 ≤ w.heap.size) (hset : SetIs w) (hl : tl.length ≤ 1048576) (hk : kl.length ≤ 1048576) (hto : ∀ q ∈ tl ++ kl, EntOk q.1) (hts : ∀ q ∈ tl ++ kl, ∀ t ∈ q.1.ts, t.size ≤ 1048576) (ht : EntsIn w ta tl) (hq : EntsIn w ka kl) :
    Calls Tryz.prog 114 #[.agg #[.int .i64 bu, .int .i64 gu, .slice ta tl.length tc, .slice ka kl.length kc], .bool hard, .func (.func g) #[] lb] w fun e w' => PurAns (purA bu gu (tl.map Prod.fst) (kl.map Prod.fst) p hard) w.heap.size e w' ∧ Below w.heap.size w w' := by
  have HF : Hid (∀ X, Below w.heap.size w X → Calls Tryz.prog 32 #[.agg #[.int .i64 bu, .int .i64 gu, .slice ta tl.length tc, .slice ka kl.length kc]] X fun r w' => r = .returned (.int .i64 (storeC bu gu (tl.map Prod.fst) (kl.map Prod.fst))) ∧ Below X.heap.size X w') := fun X hb => implSto_any X bu gu ta ka tc kc tl kl (hset.below hb) hl hk hto (ht.keep hb) (hq.keep hb)
  have HSO : Hid (∀ X, Below w.heap.size w X → Calls Tryz.prog 58 #[.agg #[.int .i64 bu, .int .i64 gu, .slice ta tl.length tc, .slice ka kl.length kc]] X fun e w' => (∃ a1 c1 d1 a2 c2 d2, e = .returned (.agg #[.slice a1 c1 d1, .slice a2 c2 d2]) ∧ TwoP w' X.heap.size (.slice a1 c1 d1) (.slice a2 c2 d2) (hdlsA ta tl) (hdlsA ka kl)) ∧ Below X.heap.size X w') := fun X hb => by
    refine (shelvesOf_any X bu gu ta ka tc kc tl kl hl hk (ht.keep hb) (hq.keep hb)).mono ?_
    rintro e w' ⟨⟨v1, v2, rfl, h2⟩, hb'⟩
    obtain ⟨a1, d1, rfl, _⟩ := h2.a.form
    obtain ⟨a2, d2, rfl, _⟩ := h2.b.form
    exact ⟨⟨a1, _, d1, a2, _, d2, rfl, h2⟩, hb'⟩
  have hOk : storeC bu gu (tl.map Prod.fst) (kl.map Prod.fst) = 0 → StoOk w ta ka tl kl := fun h0 => by
    have hx : ∀ h ∈ hdl2 ta ka tl kl, h.x ∈ (tl ++ kl).map Prod.fst := fun h hh => by rw [List.map_append, ← hdl2_x ta ka]; exact List.mem_map_of_mem hh
    refine ⟨ht, hq, by have := (storeC_zero h0).2.1; rw [List.length_map, List.length_map] at this; exact this, fun h hh => storeC_ent h0 h.x (by rw [← List.map_append]; exact hx h hh), fun h hh => ?_⟩
    obtain ⟨q, hq', e⟩ := List.mem_map.1 (hx h hh)
    rw [← e]
    exact hts q hq'
  have HKO : Hid (storeC bu gu (tl.map Prod.fst) (kl.map Prod.fst) = 0 → ∀ X v1 v2 base, Below w.heap.size w X → TwoP X base v1 v2 (hdlsA ta tl) (hdlsA ka kl) → Calls Tryz.prog 116 #[.agg #[v1, v2], .func (.func g) #[] lb] X fun e w' => (∃ a n k, e = .returned (.slice a n k) ∧ RowT w' X.heap.size (.slice a n k) (keysP p (tl.map Prod.fst ++ kl.map Prod.fst))) ∧ Below X.heap.size X w') := fun h0 X v1 v2 base hb h => by
    have ok := hOk h0
    have hn := ok.n
    refine (keysOf_any X v1 v2 base B0 g lb p C (hdlsA ta tl) (hdlsA ka kl) h PF (PF.keep _ _ hC (hb.mono hB0)) (by have := hb.size; omega) (by rw [hdlsA_len, hdlsA_len]; omega) (hdl2_there (ht.keep hb) (hq.keep hb)) (fun h hh => (entC_sizes (ok.z h hh)).2) (fun h hh => (entC_sizes (ok.z h hh)).1)).mono ?_
    rintro e w' ⟨⟨v, rfl, ho⟩, hb'⟩
    have ex : (hdlsA ta tl ++ hdlsA ka kl).map Hdl.x = tl.map Prod.fst ++ kl.map Prod.fst := hdl2_x ta ka tl kl
    rw [ex] at ho
    obtain ⟨va, vc, rfl, _⟩ := row_form ho
    exact ⟨⟨va, _, vc, rfl, ho⟩, hb'⟩
  have HTO : Hid (storeC bu gu (tl.map Prod.fst) (kl.map Prod.fst) = 0 → ∀ X, Below w.heap.size w X → Calls Tryz.prog 158 #[.agg #[.int .i64 bu, .int .i64 gu, .slice ta tl.length tc, .slice ka kl.length kc], .func (.func g) #[] lb] X fun e w' => (∃ a1 k1 n1 a2 k2 n2 m1 m2, e = .returned (.agg #[.int .i64 bu, .int .i64 gu, .slice a1 n1 k1, .slice a2 n2 k2]) ∧ m1.map Prod.fst = resE true p (tl.map Prod.fst) ∧ m2.map Prod.fst = resE true p (kl.map Prod.fst) ∧ StoLV w' X.heap.size (.slice a1 n1 k1) (.slice a2 n2 k2) m1 m2) ∧ Below X.heap.size X w') := fun h0 X hb => takenOut_any X B0 g lb p C bu gu ta ka tc kc tl kl ((hOk h0).keep hb) PF (PF.keep _ _ hC (hb.mono hB0)) (by have := hb.size; omega)
  have HTS : Hid (storeC bu gu (tl.map Prod.fst) (kl.map Prod.fst) = 0 → ∀ X, Below w.heap.size w X → Calls Tryz.prog 159 #[.agg #[.int .i64 bu, .int .i64 gu, .slice ta tl.length tc, .slice ka kl.length kc], .func (.func g) #[] lb] X fun e w' => (∃ a1 k1 n1 a2 k2 n2 m1 m2, e = .returned (.agg #[.int .i64 bu, .int .i64 gu, .slice a1 n1 k1, .slice a2 n2 k2]) ∧ m1.map Prod.fst = resE false p (tl.map Prod.fst) ∧ m2.map Prod.fst = resE false p (kl.map Prod.fst) ∧ StoLV w' X.heap.size (.slice a1 n1 k1) (.slice a2 n2 k2) m1 m2) ∧ Below X.heap.size X w') := fun h0 X hb => softened_any X B0 g lb p C bu gu ta ka tc kc tl kl ((hOk h0).keep hb) PF (PF.keep _ _ hC (hb.mono hB0)) (by have := hb.size; omega)
  obtain ⟨W, hW⟩ : ∃ W, W = (w.alloc (.cells #[.int .i64 bu, .int .i64 gu, .slice ta tl.length tc, .slice ka kl.length kc] 28)).alloc (.cells #[.int .i64 0, .int .i64 0, .int .i64 0, .slice none 0 0, .slice none 0 0, .slice none 0 0] 81) := ⟨_, rfl⟩
  have HW : Hid (W = (w.alloc (.cells #[.int .i64 bu, .int .i64 gu, .slice ta tl.length tc, .slice ka kl.length kc] 28)).alloc (.cells #[.int .i64 0, .int .i64 0, .int .i64 0, .slice none 0 0, .slice none 0 0, .slice none 0 0] 81)) := hW
  have K0 : Hid (Below w.heap.size w W ∧ S4 W w.heap.size (.int .i64 bu) (.int .i64 gu) (.slice ta tl.length tc) (.slice ka kl.length kc) ∧ S6 W (w.heap.size + 1) (.int .i64 0) (.int .i64 0) (.int .i64 0) (.slice none 0 0) (.slice none 0 0) (.slice none 0 0) ∧ w.heap.size + 2 ≤ W.heap.size) := by
    rw [hW]
    refine ⟨((Below.refl _ _).alloc (Nat.le_refl _) _).alloc (by simp) _, (S4.new w _ _ _ _ _).keep ((Below.refl _ _).alloc (Nat.le_refl _) _), ?_, by simp⟩
    have := S6.new (w.alloc (.cells #[.int .i64 bu, .int .i64 gu, .slice ta tl.length tc, .slice ka kl.length kc] 28)) (.int .i64 0) (.int .i64 0) (.int .i64 0) (.slice none 0 0) (.slice none 0 0) (.slice none 0 0) 81
    simpa using this
  obtain ⟨A, hA⟩ : ∃ A, purA bu gu (tl.map Prod.fst) (kl.map Prod.fst) p hard = A := ⟨_, rfl⟩
  rw [hA]
  unfold purA at hA
  have HA : Hid (_ = A) := hA
  have e0 := K0.out.2.1.c0
  have e1 := K0.out.2.1.c1
  have e2 := K0.out.2.1.c2
  have e3 := K0.out.2.1.c3
  rw [HW.out] at e0 e1 e2 e3
  clear hW hl hk hto hts ht hq hA hset PF hC hB0 hOk
  generalize storeC bu gu (tl.map Prod.fst) (kl.map Prod.fst) = sc at *
  generalize keysP p (tl.map Prod.fst ++ kl.map Prod.fst) = KS at *
  generalize tl.length = tn at *
  generalize kl.length = kn at *
  go_enter Tryz.func114, Tryz.ntmps114
  go_wp2_with fail
  rw [← HW.out]
  refine (HF.out _ K0.out.1).mono ?_
  rintro r0 w1 ⟨rfl, hb1⟩
  have K1 : Hid (Below w.heap.size w w1 ∧ S4 w1 w.heap.size (.int .i64 bu) (.int .i64 gu) (.slice ta tn tc) (.slice ka kn kc) ∧ S6 w1 (w.heap.size + 1) (.int .i64 0) (.int .i64 0) (.int .i64 0) (.slice none 0 0) (.slice none 0 0) (.slice none 0 0) ∧ w.heap.size + 2 ≤ w1.heap.size) := ⟨K0.out.1.trans (hb1.mono K0.out.1.size), K0.out.2.1.keep hb1, K0.out.2.2.1.keep hb1, by have := K0.out.2.2.2; have := hb1.size; omega⟩
  clear K0 HW hb1 HF e0 e1 e2 e3
  by_cases cs : sc = 0
  · subst cs
    have HAe : Hid (A = ⟨0, bu, gu, resE hard p (tl.map Prod.fst), resE hard p (kl.map Prod.fst), KS⟩) := by have := HA.out; simp only [ne_eq, not_true_eq_false, if_false] at this; exact this.symm
    have HK1 := HKO.out rfl
    have HT1 := HTO.out rfl
    have HS1 := HTS.out rfl
    clear HA HKO HTO HTS
    have e0 := K1.out.2.1.c0
    have e1 := K1.out.2.1.c1
    have e2 := K1.out.2.1.c2
    have e3 := K1.out.2.1.c3
    go_wp2_with fail
    refine (HSO.out _ K1.out.1).mono ?_
    rintro r0 w2 ⟨⟨a1, c1, d1, a2, c2, d2, rfl, tp⟩, hb2⟩
    have CK := HK1 w2 _ _ _ (K1.out.1.trans (hb2.mono K1.out.1.size)) tp
    have K2 : Hid (Below w.heap.size w w2 ∧ S4 w2 w.heap.size (.int .i64 bu) (.int .i64 gu) (.slice ta tn tc) (.slice ka kn kc) ∧ S6 w2 (w.heap.size + 1) (.int .i64 0) (.int .i64 0) (.int .i64 0) (.slice none 0 0) (.slice none 0 0) (.slice none 0 0) ∧ w.heap.size + 2 ≤ w2.heap.size) := ⟨K1.out.1.trans (hb2.mono K1.out.1.size), K1.out.2.1.keep hb2, K1.out.2.2.1.keep hb2, by have := K1.out.2.2.2; have := hb2.size; omega⟩
    clear e0 e1 e2 e3 hb2 tp K1 HSO HK1
    go_wp2_with fail
    refine CK.mono ?_
    rintro r0 w3 ⟨⟨a, n, k, rfl, ho⟩, hb3⟩
    have K3 : Hid (Below w.heap.size w w3 ∧ S4 w3 w.heap.size (.int .i64 bu) (.int .i64 gu) (.slice ta tn tc) (.slice ka kn kc) ∧ S6 w3 (w.heap.size + 1) (.int .i64 0) (.int .i64 0) (.int .i64 0) (.slice none 0 0) (.slice none 0 0) (.slice none 0 0) ∧ w.heap.size + 2 ≤ w2.heap.size ∧ w2.heap.size ≤ w3.heap.size) := ⟨K2.out.1.trans (hb3.mono K2.out.1.size), K2.out.2.1.keep hb3, K2.out.2.2.1.keep hb3, K2.out.2.2.2, hb3.size⟩
    have HO : Hid (RowT w3 w2.heap.size (.slice a n k) KS) := ho
    have e0 := K3.out.2.1.c0
    have e1 := K3.out.2.1.c1
    have e2 := K3.out.2.1.c2
    have e3 := K3.out.2.1.c3
    clear ho hb3 K2 CK
    have FIN : Hid (∀ X a1 k1 n1 a2 k2 n2 m1 m2, StoLV X w3.heap.size (.slice a1 n1 k1) (.slice a2 n2 k2) m1 m2 → Below w3.heap.size w3 X → m1.map Prod.fst = resE hard p (tl.map Prod.fst) → m2.map Prod.fst = resE hard p (kl.map Prod.fst) → S6 X (w.heap.size + 1) (.int .i64 0) (.int .i64 0) (.int .i64 0) (.slice none 0 0) (.slice none 0 0) (.slice none 0 0) ∧ (∀ u0 u1 u2 u3 u4 u5, PurAns A w.heap.size (.returned (.agg #[.int .i64 0, .int .i64 bu, .int .i64 gu, .slice a1 n1 k1, .slice a2 n2 k2, .slice a n k])) ((((((X.setCell ⟨w.heap.size + 1, 0, none⟩ u0).setCell ⟨w.heap.size + 1, 1, none⟩ u1).setCell ⟨w.heap.size + 1, 2, none⟩ u2).setCell ⟨w.heap.size + 1, 3, none⟩ u3).setCell ⟨w.heap.size + 1, 4, none⟩ u4).setCell ⟨w.heap.size + 1, 5, none⟩ u5) ∧ Below w.heap.size w ((((((X.setCell ⟨w.heap.size + 1, 0, none⟩ u0).setCell ⟨w.heap.size + 1, 1, none⟩ u1).setCell ⟨w.heap.size + 1, 2, none⟩ u2).setCell ⟨w.heap.size + 1, 3, none⟩ u3).setCell ⟨w.heap.size + 1, 4, none⟩ u4).setCell ⟨w.heap.size + 1, 5, none⟩ u5))) := fun X a1 k1 n1 a2 k2 n2 m1 m2 o hX x1 x2 => by
      obtain ⟨q1, _, q3, q4, q5⟩ := K3.out
      refine ⟨q3.keep hX, fun u0 u1 u2 u3 u4 u5 => ?_⟩
      have bX := q1.trans (hX.mono q1.size)
      have tl0 := HO.out.lv.1
      have hQ : QSto X w2.heap.size X.heap.size ⟨⟨a1, k1, n1, a2, k2, n2⟩, a, k, n⟩ (resE hard p (tl.map Prod.fst)) (resE hard p (kl.map Prod.fst)) KS := QSto.mk (r := ⟨⟨a1, k1, n1, a2, k2, n2⟩, a, k, n⟩) x1 x2 (o.lower q5) (tl0.below hX) (fun q e => ⟨HO.out.lv.2 q e, fun hm => by have := o.t.ge hm; have := tl0.block_lt q e; omega, fun hm => by have := o.k.ge hm; have := tl0.block_lt q e; omega⟩)
      refine ⟨PurAns.of ⟨⟨⟨a1, k1, n1, a2, k2, n2⟩, a, k, n⟩, rfl, QSto.lower (PurAns.off6 (A := ⟨0, bu, gu, resE hard p (tl.map Prod.fst), resE hard p (kl.map Prod.fst), KS⟩) hQ (b := w.heap.size + 1) (by omega) u0 u1 u2 u3 u4 u5) (by omega)⟩ HAe.out, ?_⟩
      exact (((((bX.setCell (by simp) _).setCell (by simp) _).setCell (by simp) _).setCell (by simp) _).setCell (by simp) _).setCell (by simp) _
    cases hard
    · go_wp2_with fail
      refine (HS1 w3 K3.out.1).mono ?_
      rintro r0 w4 ⟨⟨b1, k1, n1, b2, k2, n2, m1, m2, rfl, x1, x2, o⟩, hb4⟩
      obtain ⟨s6, fin⟩ := FIN.out w4 b1 k1 n1 b2 k2 n2 m1 m2 o hb4 x1 x2
      have HX : Hid _ := fin
      have z0 := s6.c0
      have z1 := s6.c1
      have z2 := s6.c2
      have z3 := s6.c3
      have z4 := s6.c4
      have z5 := s6.c5
      have zf0 := s6.fr 0
      have zf1 := s6.fr 1
      have zf2 := s6.fr 2
      have zf3 := s6.fr 3
      have zf4 := s6.fr 4
      have zf5 := s6.fr 5
      clear s6 fin o x1 x2 hb4 FIN HS1 HT1 K3 HO HAe e0 e1 e2 e3
      go_wp2_with fail
      refine bodyPost_ret (v := .agg #[.int .i64 0, .int .i64 bu, .int .i64 gu, .slice b1 n1 k1, .slice b2 n2 k2, .slice a n k]) (by simp [results, Tryz.results114, go_sem, z0, z1, z2, z3, z4, z5]) rfl ?_
      exact HX.out _ _ _ _ _ _
    · go_wp2_with fail
      refine (HT1 w3 K3.out.1).mono ?_
      rintro r0 w4 ⟨⟨b1, k1, n1, b2, k2, n2, m1, m2, rfl, x1, x2, o⟩, hb4⟩
      obtain ⟨s6, fin⟩ := FIN.out w4 b1 k1 n1 b2 k2 n2 m1 m2 o hb4 x1 x2
      have HX : Hid _ := fin
      have z0 := s6.c0
      have z1 := s6.c1
      have z2 := s6.c2
      have z3 := s6.c3
      have z4 := s6.c4
      have z5 := s6.c5
      have zf0 := s6.fr 0
      have zf1 := s6.fr 1
      have zf2 := s6.fr 2
      have zf3 := s6.fr 3
      have zf4 := s6.fr 4
      have zf5 := s6.fr 5
      clear s6 fin o x1 x2 hb4 FIN HS1 HT1 K3 HO HAe e0 e1 e2 e3
      go_wp2_with fail
      refine bodyPost_ret (v := .agg #[.int .i64 0, .int .i64 bu, .int .i64 gu, .slice b1 n1 k1, .slice b2 n2 k2, .slice a n k]) (by simp [results, Tryz.results114, go_sem, z0, z1, z2, z3, z4, z5]) rfl ?_
      exact HX.out _ _ _ _ _ _
  · have HAe : Hid (A = badQ sc) := by have := HA.out; rw [if_pos cs] at this; exact this.symm
    have s6 := K1.out.2.2.1
    have z0 := s6.c0
    have z1 := s6.c1
    have z2 := s6.c2
    have z3 := s6.c3
    have z4 := s6.c4
    have z5 := s6.c5
    have zf0 := s6.fr 0
    have zf1 := s6.fr 1
    have zf2 := s6.fr 2
    have zf3 := s6.fr 3
    have zf4 := s6.fr 4
    have zf5 := s6.fr 5
    have HB : Hid (Below w.heap.size w w1) := K1.out.1
    clear HA K1 HKO HTO HTS HSO s6
    go_wp2_with fail
    refine bodyPost_ret (v := .agg #[.int .i64 sc, .int .i64 0, .int .i64 0, .slice none 0 0, .slice none 0 0, .slice none 0 0]) (by simp [results, Tryz.results114, go_sem, z0, z1, z2, z3, z4, z5]) rfl ?_
    exact ⟨(PurAns.bad _ _ _).of HAe.out, (((((HB.out.setCell (by simp) _).setCell (by simp) _).setCell (by simp) _).setCell (by simp) _).setCell (by simp) _).setCell (by simp) _⟩
set_option maxRecDepth 100000 in
set_option maxHeartbeats 8000000 in
theorem implPurgeKey_any (w : World) (bu gu : Int) (ta ka : Option Addr) (tc kc : Nat) (tl kl : List (Ent × EntR)) (key : ByteArray) (hard : Bool) (hset : SetIs w) (hl : tl.length ≤ 1048576) (hk : kl.length ≤ 1048576) (hto : ∀ q ∈ tl ++ kl, EntOk q.1) (hts : ∀ q ∈ tl ++ kl, ∀ t ∈ q.1.ts, t.size ≤ 1048576) (ht : EntsIn w ta tl) (hq : EntsIn w ka kl) :
    Calls Tryz.prog 52 #[.agg #[.int .i64 bu, .int .i64 gu, .slice ta tl.length tc, .slice ka kl.length kc], .string key, .bool hard] w fun e w' => PurAns (purA bu gu (tl.map Prod.fst) (kl.map Prod.fst) (isKey key) hard) w.heap.size e w' ∧ Below w.heap.size w w' := by
  obtain ⟨A, hA⟩ : ∃ A, purA bu gu (tl.map Prod.fst) (kl.map Prod.fst) (isKey key) hard = A := ⟨_, rfl⟩
  rw [hA]
  obtain ⟨W, hW⟩ : ∃ W, W = (w.alloc (.cells #[.int .i64 bu, .int .i64 gu, .slice ta tl.length tc, .slice ka kl.length kc] 28)).alloc (.cells #[.int .i64 0, .int .i64 0, .int .i64 0, .slice none 0 0, .slice none 0 0, .slice none 0 0] 81) := ⟨_, rfl⟩
  have HW : Hid (W = (w.alloc (.cells #[.int .i64 bu, .int .i64 gu, .slice ta tl.length tc, .slice ka kl.length kc] 28)).alloc (.cells #[.int .i64 0, .int .i64 0, .int .i64 0, .slice none 0 0, .slice none 0 0, .slice none 0 0] 81)) := hW
  have K0 : Hid (Below w.heap.size w W ∧ S4 W w.heap.size (.int .i64 bu) (.int .i64 gu) (.slice ta tl.length tc) (.slice ka kl.length kc) ∧ S6 W (w.heap.size + 1) (.int .i64 0) (.int .i64 0) (.int .i64 0) (.slice none 0 0) (.slice none 0 0) (.slice none 0 0) ∧ w.heap.size + 2 ≤ W.heap.size) := by
    rw [hW]
    refine ⟨((Below.refl _ _).alloc (Nat.le_refl _) _).alloc (by simp) _, (S4.new w _ _ _ _ _).keep ((Below.refl _ _).alloc (Nat.le_refl _) _), ?_, by simp⟩
    have := S6.new (w.alloc (.cells #[.int .i64 bu, .int .i64 gu, .slice ta tl.length tc, .slice ka kl.length kc] 28)) (.int .i64 0) (.int .i64 0) (.int .i64 0) (.slice none 0 0) (.slice none 0 0) (.slice none 0 0) 81
    simpa using this
  have HP : Hid (∀ X, Below w.heap.size w X → ∀ K : Nat, K < X.heap.size → X.cell? ⟨K, 0, none⟩ = some (.string key) → Calls Tryz.prog 114 #[.agg #[.int .i64 bu, .int .i64 gu, .slice ta tl.length tc, .slice ka kl.length kc], .bool hard, .func (.func 164) #[] #[.pointer (some ⟨K, 0, none⟩)]] X fun e w' => (∃ r : QR, e = .returned (.agg #[.int .i64 A.c, .int .i64 A.bu, .int .i64 A.gu, .slice r.s.a1 r.s.n1 r.s.k1, .slice r.s.a2 r.s.n2 r.s.k2, .slice r.a3 r.n3 r.k3]) ∧ QSto w' X.heap.size w'.heap.size r A.t A.k A.g) ∧ Below X.heap.size X w') := fun X hX K hK hc => by
    rw [← hA]
    exact purge_any X X.heap.size _ _ (isKey key) _ bu gu ta ka tc kc tl kl hard (predKey X.heap.size K key hK) hc (Nat.le_refl _) (hset.below hX) hl hk hto hts (ht.keep hX) (hq.keep hX)
  have e0 := K0.out.2.1.c0
  have e1 := K0.out.2.1.c1
  have e2 := K0.out.2.1.c2
  have e3 := K0.out.2.1.c3
  rw [HW.out] at e0 e1 e2 e3
  clear hA hW hset hl hk hto hts ht hq
  obtain ⟨c, bo, go, T1, T2, G⟩ := A
  simp only at HP
  generalize tl.length = tn at *
  generalize kl.length = kn at *
  go_enter Tryz.func52, Tryz.ntmps52
  go_wp2_with fail
  rw [← HW.out]
  clear HW
  have HKW : Hid (∀ X, Below W.heap.size W X → Below w.heap.size w X ∧ S4 X w.heap.size (.int .i64 bu) (.int .i64 gu) (.slice ta tn tc) (.slice ka kn kc) ∧ S6 X (w.heap.size + 1) (.int .i64 0) (.int .i64 0) (.int .i64 0) (.slice none 0 0) (.slice none 0 0) (.slice none 0 0)) := fun X hX => ⟨K0.out.1.trans (hX.mono K0.out.1.size), K0.out.2.1.keep hX, K0.out.2.2.1.keep hX⟩
  have HKS : Hid (∀ X, Below W.heap.size W X → (X.cell? ⟨w.heap.size, 0, none⟩ = some (.int .i64 bu) ∧ X.cell? ⟨w.heap.size, 1, none⟩ = some (.int .i64 gu) ∧ X.cell? ⟨w.heap.size, 2, none⟩ = some (.slice ta tn tc) ∧ X.cell? ⟨w.heap.size, 3, none⟩ = some (.slice ka kn kc))) := fun X hX => ⟨(HKW.out X hX).2.1.c0, (HKW.out X hX).2.1.c1, (HKW.out X hX).2.1.c2, (HKW.out X hX).2.1.c3⟩
  have HKT : Hid (∀ X u0 u1 u2 u3 u4 u5, Below W.heap.size W X → (((((((X.setCell ⟨w.heap.size + 1, 0, none⟩ u0).setCell ⟨w.heap.size + 1, 1, none⟩ u1).setCell ⟨w.heap.size + 1, 2, none⟩ u2).setCell ⟨w.heap.size + 1, 3, none⟩ u3).setCell ⟨w.heap.size + 1, 4, none⟩ u4).setCell ⟨w.heap.size + 1, 5, none⟩ u5).cell? ⟨w.heap.size, 0, none⟩ = some (.int .i64 bu) ∧ ((((((X.setCell ⟨w.heap.size + 1, 0, none⟩ u0).setCell ⟨w.heap.size + 1, 1, none⟩ u1).setCell ⟨w.heap.size + 1, 2, none⟩ u2).setCell ⟨w.heap.size + 1, 3, none⟩ u3).setCell ⟨w.heap.size + 1, 4, none⟩ u4).setCell ⟨w.heap.size + 1, 5, none⟩ u5).cell? ⟨w.heap.size, 1, none⟩ = some (.int .i64 gu) ∧ ((((((X.setCell ⟨w.heap.size + 1, 0, none⟩ u0).setCell ⟨w.heap.size + 1, 1, none⟩ u1).setCell ⟨w.heap.size + 1, 2, none⟩ u2).setCell ⟨w.heap.size + 1, 3, none⟩ u3).setCell ⟨w.heap.size + 1, 4, none⟩ u4).setCell ⟨w.heap.size + 1, 5, none⟩ u5).cell? ⟨w.heap.size, 2, none⟩ = some (.slice ta tn tc) ∧ ((((((X.setCell ⟨w.heap.size + 1, 0, none⟩ u0).setCell ⟨w.heap.size + 1, 1, none⟩ u1).setCell ⟨w.heap.size + 1, 2, none⟩ u2).setCell ⟨w.heap.size + 1, 3, none⟩ u3).setCell ⟨w.heap.size + 1, 4, none⟩ u4).setCell ⟨w.heap.size + 1, 5, none⟩ u5).cell? ⟨w.heap.size, 3, none⟩ = some (.slice ka kn kc))) := fun X u0 u1 u2 u3 u4 u5 hX => by
    have s := ((((((HKW.out X hX).2.1.off (B := w.heap.size + 1) (i := 0) (x := u0) (by omega)).off (B := w.heap.size + 1) (i := 1) (x := u1) (by omega)).off (B := w.heap.size + 1) (i := 2) (x := u2) (by omega)).off (B := w.heap.size + 1) (i := 3) (x := u3) (by omega)).off (B := w.heap.size + 1) (i := 4) (x := u4) (by omega)).off (B := w.heap.size + 1) (i := 5) (x := u5) (by omega)
    exact ⟨s.c0, s.c1, s.c2, s.c3⟩
  have B0' : Hid (Below W.heap.size W W.drew) := (Below.refl _ _).drew
  go_region_held3 (fun X => X.cell? ⟨w.heap.size, 0, none⟩ = some (.int .i64 bu) ∧ X.cell? ⟨w.heap.size, 1, none⟩ = some (.int .i64 gu) ∧ X.cell? ⟨w.heap.size, 2, none⟩ = some (.slice ta tn tc) ∧ X.cell? ⟨w.heap.size, 3, none⟩ = some (.slice ka kn kc))
    (first | ((with_reducible refine HKS.out _ ?_); (with_reducible exact BB.out)) | ((with_reducible refine HKS.out _ ?_); (with_reducible exact BA.out)) | ((with_reducible refine HKS.out _ ?_); (with_reducible exact B0'.out)) | ((with_reducible refine HKT.out _ _ _ _ _ _ _ ?_); (with_reducible exact BB.out)))
    (first
    | (go_at_call 114; (with_reducible refine (HP.out wa ?_ _ ?_ ?_).mono ?_); (exact (HKW.out _ BA.out).1); (exact HC.out.2); (exact HC.out.1); rintro r0 w3 ⟨⟨r, rfl, hQ⟩, hb3⟩; have BB : Hid (Below W.heap.size W w3) := BA.out.trans (hb3.mono BA.out.size); have HQ : Hid (QSto w3 wa.heap.size w3.heap.size r T1 T2 G ∧ w.heap.size + 1 < wa.heap.size ∧ Below w.heap.size w w3) := ⟨hQ, by have := BA.out.size; have := K0.out.2.2.2; omega, (HKW.out _ BB.out).1⟩; have s6 := (HKW.out _ BB.out).2.2; have z0 := s6.c0; have z1 := s6.c1; have z2 := s6.c2; have z3 := s6.c3; have z4 := s6.c4; have z5 := s6.c5; have zf0 := s6.fr 0; have zf1 := s6.fr 1; have zf2 := s6.fr 2; have zf3 := s6.fr 3; have zf4 := s6.fr 4; have zf5 := s6.fr 5; clear s6 hQ hb3)
    | (go_at_call 120; (with_reducible refine (hasKey_any W.drew key).mono ?_); rintro r0 wa ⟨rfl, hc2, hl2, hb2⟩; have BA : Hid (Below W.heap.size W wa) := B0'.out.trans (hb2.mono B0'.out.size); have HC : Hid (wa.cell? ⟨W.drew.heap.size, 0, none⟩ = some (.string key) ∧ W.drew.heap.size < wa.heap.size) := ⟨hc2, hl2⟩; clear hc2 hl2 hb2))
  all_goals
    go_wp2_with fail
    refine bodyPost_ret (v := .agg #[.int .i64 c, .int .i64 bo, .int .i64 go, .slice r.s.a1 r.s.n1 r.s.k1, .slice r.s.a2 r.s.n2 r.s.k2, .slice r.a3 r.n3 r.k3]) (by simp [results, Tryz.results52, go_sem, z0, z1, z2, z3, z4, z5]) rfl ?_
    refine ⟨⟨r, rfl, QSto.lower (PurAns.off6 (A := ⟨c, bo, go, T1, T2, G⟩) HQ.out.1 HQ.out.2.1 _ _ _ _ _ _) (by have := HQ.out.2.1; omega)⟩, ?_⟩
    exact (((((HQ.out.2.2.setCell (by simp) _).setCell (by simp) _).setCell (by simp) _).setCell (by simp) _).setCell (by simp) _).setCell (by simp) _
set_option maxRecDepth 100000 in
set_option maxHeartbeats 8000000 in
theorem implPurgeTag_any (w : World) (bu gu : Int) (ta ka : Option Addr) (tc kc : Nat) (tl kl : List (Ent × EntR)) (tag : ByteArray) (hard : Bool) (hset : SetIs w) (hl : tl.length ≤ 1048576) (hk : kl.length ≤ 1048576) (hto : ∀ q ∈ tl ++ kl, EntOk q.1) (hts : ∀ q ∈ tl ++ kl, ∀ t ∈ q.1.ts, t.size ≤ 1048576) (ht : EntsIn w ta tl) (hq : EntsIn w ka kl) :
    Calls Tryz.prog 47 #[.agg #[.int .i64 bu, .int .i64 gu, .slice ta tl.length tc, .slice ka kl.length kc], .string tag, .bool hard] w fun e w' => PurAns (purA bu gu (tl.map Prod.fst) (kl.map Prod.fst) (tagP tag) hard) w.heap.size e w' ∧ Below w.heap.size w w' := by
  obtain ⟨A, hA⟩ : ∃ A, purA bu gu (tl.map Prod.fst) (kl.map Prod.fst) (tagP tag) hard = A := ⟨_, rfl⟩
  rw [hA]
  obtain ⟨W, hW⟩ : ∃ W, W = (w.alloc (.cells #[.int .i64 bu, .int .i64 gu, .slice ta tl.length tc, .slice ka kl.length kc] 28)).alloc (.cells #[.int .i64 0, .int .i64 0, .int .i64 0, .slice none 0 0, .slice none 0 0, .slice none 0 0] 81) := ⟨_, rfl⟩
  have HW : Hid (W = (w.alloc (.cells #[.int .i64 bu, .int .i64 gu, .slice ta tl.length tc, .slice ka kl.length kc] 28)).alloc (.cells #[.int .i64 0, .int .i64 0, .int .i64 0, .slice none 0 0, .slice none 0 0, .slice none 0 0] 81)) := hW
  have K0 : Hid (Below w.heap.size w W ∧ S4 W w.heap.size (.int .i64 bu) (.int .i64 gu) (.slice ta tl.length tc) (.slice ka kl.length kc) ∧ S6 W (w.heap.size + 1) (.int .i64 0) (.int .i64 0) (.int .i64 0) (.slice none 0 0) (.slice none 0 0) (.slice none 0 0) ∧ w.heap.size + 2 ≤ W.heap.size) := by
    rw [hW]
    refine ⟨((Below.refl _ _).alloc (Nat.le_refl _) _).alloc (by simp) _, (S4.new w _ _ _ _ _).keep ((Below.refl _ _).alloc (Nat.le_refl _) _), ?_, by simp⟩
    have := S6.new (w.alloc (.cells #[.int .i64 bu, .int .i64 gu, .slice ta tl.length tc, .slice ka kl.length kc] 28)) (.int .i64 0) (.int .i64 0) (.int .i64 0) (.slice none 0 0) (.slice none 0 0) (.slice none 0 0) 81
    simpa using this
  have HP : Hid (∀ X, Below w.heap.size w X → ∀ K : Nat, K < X.heap.size → X.cell? ⟨K, 0, none⟩ = some (.string tag) → Calls Tryz.prog 114 #[.agg #[.int .i64 bu, .int .i64 gu, .slice ta tl.length tc, .slice ka kl.length kc], .bool hard, .func (.func 160) #[] #[.pointer (some ⟨K, 0, none⟩)]] X fun e w' => (∃ r : QR, e = .returned (.agg #[.int .i64 A.c, .int .i64 A.bu, .int .i64 A.gu, .slice r.s.a1 r.s.n1 r.s.k1, .slice r.s.a2 r.s.n2 r.s.k2, .slice r.a3 r.n3 r.k3]) ∧ QSto w' X.heap.size w'.heap.size r A.t A.k A.g) ∧ Below X.heap.size X w') := fun X hX K hK hc => by
    rw [← hA]
    exact purge_any X X.heap.size _ _ (tagP tag) _ bu gu ta ka tc kc tl kl hard (predTag X.heap.size K tag hK) hc (Nat.le_refl _) (hset.below hX) hl hk hto hts (ht.keep hX) (hq.keep hX)
  have e0 := K0.out.2.1.c0
  have e1 := K0.out.2.1.c1
  have e2 := K0.out.2.1.c2
  have e3 := K0.out.2.1.c3
  rw [HW.out] at e0 e1 e2 e3
  clear hA hW hset hl hk hto hts ht hq
  obtain ⟨c, bo, go, T1, T2, G⟩ := A
  simp only at HP
  generalize tl.length = tn at *
  generalize kl.length = kn at *
  go_enter Tryz.func47, Tryz.ntmps47
  go_wp2_with fail
  rw [← HW.out]
  clear HW
  have HKW : Hid (∀ X, Below W.heap.size W X → Below w.heap.size w X ∧ S4 X w.heap.size (.int .i64 bu) (.int .i64 gu) (.slice ta tn tc) (.slice ka kn kc) ∧ S6 X (w.heap.size + 1) (.int .i64 0) (.int .i64 0) (.int .i64 0) (.slice none 0 0) (.slice none 0 0) (.slice none 0 0)) := fun X hX => ⟨K0.out.1.trans (hX.mono K0.out.1.size), K0.out.2.1.keep hX, K0.out.2.2.1.keep hX⟩
  have HKS : Hid (∀ X, Below W.heap.size W X → (X.cell? ⟨w.heap.size, 0, none⟩ = some (.int .i64 bu) ∧ X.cell? ⟨w.heap.size, 1, none⟩ = some (.int .i64 gu) ∧ X.cell? ⟨w.heap.size, 2, none⟩ = some (.slice ta tn tc) ∧ X.cell? ⟨w.heap.size, 3, none⟩ = some (.slice ka kn kc))) := fun X hX => ⟨(HKW.out X hX).2.1.c0, (HKW.out X hX).2.1.c1, (HKW.out X hX).2.1.c2, (HKW.out X hX).2.1.c3⟩
  have HKT : Hid (∀ X u0 u1 u2 u3 u4 u5, Below W.heap.size W X → (((((((X.setCell ⟨w.heap.size + 1, 0, none⟩ u0).setCell ⟨w.heap.size + 1, 1, none⟩ u1).setCell ⟨w.heap.size + 1, 2, none⟩ u2).setCell ⟨w.heap.size + 1, 3, none⟩ u3).setCell ⟨w.heap.size + 1, 4, none⟩ u4).setCell ⟨w.heap.size + 1, 5, none⟩ u5).cell? ⟨w.heap.size, 0, none⟩ = some (.int .i64 bu) ∧ ((((((X.setCell ⟨w.heap.size + 1, 0, none⟩ u0).setCell ⟨w.heap.size + 1, 1, none⟩ u1).setCell ⟨w.heap.size + 1, 2, none⟩ u2).setCell ⟨w.heap.size + 1, 3, none⟩ u3).setCell ⟨w.heap.size + 1, 4, none⟩ u4).setCell ⟨w.heap.size + 1, 5, none⟩ u5).cell? ⟨w.heap.size, 1, none⟩ = some (.int .i64 gu) ∧ ((((((X.setCell ⟨w.heap.size + 1, 0, none⟩ u0).setCell ⟨w.heap.size + 1, 1, none⟩ u1).setCell ⟨w.heap.size + 1, 2, none⟩ u2).setCell ⟨w.heap.size + 1, 3, none⟩ u3).setCell ⟨w.heap.size + 1, 4, none⟩ u4).setCell ⟨w.heap.size + 1, 5, none⟩ u5).cell? ⟨w.heap.size, 2, none⟩ = some (.slice ta tn tc) ∧ ((((((X.setCell ⟨w.heap.size + 1, 0, none⟩ u0).setCell ⟨w.heap.size + 1, 1, none⟩ u1).setCell ⟨w.heap.size + 1, 2, none⟩ u2).setCell ⟨w.heap.size + 1, 3, none⟩ u3).setCell ⟨w.heap.size + 1, 4, none⟩ u4).setCell ⟨w.heap.size + 1, 5, none⟩ u5).cell? ⟨w.heap.size, 3, none⟩ = some (.slice ka kn kc))) := fun X u0 u1 u2 u3 u4 u5 hX => by
    have s := ((((((HKW.out X hX).2.1.off (B := w.heap.size + 1) (i := 0) (x := u0) (by omega)).off (B := w.heap.size + 1) (i := 1) (x := u1) (by omega)).off (B := w.heap.size + 1) (i := 2) (x := u2) (by omega)).off (B := w.heap.size + 1) (i := 3) (x := u3) (by omega)).off (B := w.heap.size + 1) (i := 4) (x := u4) (by omega)).off (B := w.heap.size + 1) (i := 5) (x := u5) (by omega)
    exact ⟨s.c0, s.c1, s.c2, s.c3⟩
  have B0' : Hid (Below W.heap.size W W.drew) := (Below.refl _ _).drew
  go_region_held3 (fun X => X.cell? ⟨w.heap.size, 0, none⟩ = some (.int .i64 bu) ∧ X.cell? ⟨w.heap.size, 1, none⟩ = some (.int .i64 gu) ∧ X.cell? ⟨w.heap.size, 2, none⟩ = some (.slice ta tn tc) ∧ X.cell? ⟨w.heap.size, 3, none⟩ = some (.slice ka kn kc))
    (first | ((with_reducible refine HKS.out _ ?_); (with_reducible exact BB.out)) | ((with_reducible refine HKS.out _ ?_); (with_reducible exact BA.out)) | ((with_reducible refine HKS.out _ ?_); (with_reducible exact B0'.out)) | ((with_reducible refine HKT.out _ _ _ _ _ _ _ ?_); (with_reducible exact BB.out)))
    (first
    | (go_at_call 114; (with_reducible refine (HP.out wa ?_ _ ?_ ?_).mono ?_); (exact (HKW.out _ BA.out).1); (exact HC.out.2); (exact HC.out.1); rintro r0 w3 ⟨⟨r, rfl, hQ⟩, hb3⟩; have BB : Hid (Below W.heap.size W w3) := BA.out.trans (hb3.mono BA.out.size); have HQ : Hid (QSto w3 wa.heap.size w3.heap.size r T1 T2 G ∧ w.heap.size + 1 < wa.heap.size ∧ Below w.heap.size w w3) := ⟨hQ, by have := BA.out.size; have := K0.out.2.2.2; omega, (HKW.out _ BB.out).1⟩; have s6 := (HKW.out _ BB.out).2.2; have z0 := s6.c0; have z1 := s6.c1; have z2 := s6.c2; have z3 := s6.c3; have z4 := s6.c4; have z5 := s6.c5; have zf0 := s6.fr 0; have zf1 := s6.fr 1; have zf2 := s6.fr 2; have zf3 := s6.fr 3; have zf4 := s6.fr 4; have zf5 := s6.fr 5; clear s6 hQ hb3)
    | (go_at_call 115; (with_reducible refine (hasTag_any W.drew tag).mono ?_); rintro r0 wa ⟨rfl, hc2, hl2, hb2⟩; have BA : Hid (Below W.heap.size W wa) := B0'.out.trans (hb2.mono B0'.out.size); have HC : Hid (wa.cell? ⟨W.drew.heap.size, 0, none⟩ = some (.string tag) ∧ W.drew.heap.size < wa.heap.size) := ⟨hc2, hl2⟩; clear hc2 hl2 hb2))
  all_goals
    go_wp2_with fail
    refine bodyPost_ret (v := .agg #[.int .i64 c, .int .i64 bo, .int .i64 go, .slice r.s.a1 r.s.n1 r.s.k1, .slice r.s.a2 r.s.n2 r.s.k2, .slice r.a3 r.n3 r.k3]) (by simp [results, Tryz.results47, go_sem, z0, z1, z2, z3, z4, z5]) rfl ?_
    refine ⟨⟨r, rfl, QSto.lower (PurAns.off6 (A := ⟨c, bo, go, T1, T2, G⟩) HQ.out.1 HQ.out.2.1 _ _ _ _ _ _) (by have := HQ.out.2.1; omega)⟩, ?_⟩
    exact (((((HQ.out.2.2.setCell (by simp) _).setCell (by simp) _).setCell (by simp) _).setCell (by simp) _).setCell (by simp) _).setCell (by simp) _
set_option maxRecDepth 100000 in
set_option maxHeartbeats 8000000 in
theorem implPurgeAll_any (w : World) (bu gu : Int) (ta ka : Option Addr) (tc kc : Nat) (tl kl : List (Ent × EntR)) (hard : Bool) (hset : SetIs w) (hl : tl.length ≤ 1048576) (hk : kl.length ≤ 1048576) (hto : ∀ q ∈ tl ++ kl, EntOk q.1) (hts : ∀ q ∈ tl ++ kl, ∀ t ∈ q.1.ts, t.size ≤ 1048576) (ht : EntsIn w ta tl) (hq : EntsIn w ka kl) :
    Calls Tryz.prog 49 #[.agg #[.int .i64 bu, .int .i64 gu, .slice ta tl.length tc, .slice ka kl.length kc], .bool hard] w fun e w' => PurAns (purA bu gu (tl.map Prod.fst) (kl.map Prod.fst) anyP hard) w.heap.size e w' ∧ Below w.heap.size w w' := by
  obtain ⟨A, hA⟩ : ∃ A, purA bu gu (tl.map Prod.fst) (kl.map Prod.fst) anyP hard = A := ⟨_, rfl⟩
  rw [hA]
  obtain ⟨W, hW⟩ : ∃ W, W = (w.alloc (.cells #[.int .i64 bu, .int .i64 gu, .slice ta tl.length tc, .slice ka kl.length kc] 28)).alloc (.cells #[.int .i64 0, .int .i64 0, .int .i64 0, .slice none 0 0, .slice none 0 0, .slice none 0 0] 81) := ⟨_, rfl⟩
  have HW : Hid (W = (w.alloc (.cells #[.int .i64 bu, .int .i64 gu, .slice ta tl.length tc, .slice ka kl.length kc] 28)).alloc (.cells #[.int .i64 0, .int .i64 0, .int .i64 0, .slice none 0 0, .slice none 0 0, .slice none 0 0] 81)) := hW
  have K0 : Hid (Below w.heap.size w W ∧ S4 W w.heap.size (.int .i64 bu) (.int .i64 gu) (.slice ta tl.length tc) (.slice ka kl.length kc) ∧ S6 W (w.heap.size + 1) (.int .i64 0) (.int .i64 0) (.int .i64 0) (.slice none 0 0) (.slice none 0 0) (.slice none 0 0) ∧ w.heap.size + 2 ≤ W.heap.size) := by
    rw [hW]
    refine ⟨((Below.refl _ _).alloc (Nat.le_refl _) _).alloc (by simp) _, (S4.new w _ _ _ _ _).keep ((Below.refl _ _).alloc (Nat.le_refl _) _), ?_, by simp⟩
    have := S6.new (w.alloc (.cells #[.int .i64 bu, .int .i64 gu, .slice ta tl.length tc, .slice ka kl.length kc] 28)) (.int .i64 0) (.int .i64 0) (.int .i64 0) (.slice none 0 0) (.slice none 0 0) (.slice none 0 0) 81
    simpa using this
  have HP : Hid (∀ X, Below w.heap.size w X → Calls Tryz.prog 114 #[.agg #[.int .i64 bu, .int .i64 gu, .slice ta tl.length tc, .slice ka kl.length kc], .bool hard, .func (.func 117) #[] #[]] X fun e w' => (∃ r : QR, e = .returned (.agg #[.int .i64 A.c, .int .i64 A.bu, .int .i64 A.gu, .slice r.s.a1 r.s.n1 r.s.k1, .slice r.s.a2 r.s.n2 r.s.k2, .slice r.a3 r.n3 r.k3]) ∧ QSto w' X.heap.size w'.heap.size r A.t A.k A.g) ∧ Below X.heap.size X w') := fun X hX => by
    rw [← hA]
    exact purge_any X X.heap.size _ _ anyP _ bu gu ta ka tc kc tl kl hard (predAny X.heap.size) trivial (Nat.le_refl _) (hset.below hX) hl hk hto hts (ht.keep hX) (hq.keep hX)
  have e0 := K0.out.2.1.c0
  have e1 := K0.out.2.1.c1
  have e2 := K0.out.2.1.c2
  have e3 := K0.out.2.1.c3
  rw [HW.out] at e0 e1 e2 e3
  clear hA hW hset hl hk hto hts ht hq
  obtain ⟨c, bo, go, T1, T2, G⟩ := A
  simp only at HP
  generalize tl.length = tn at *
  generalize kl.length = kn at *
  go_enter Tryz.func49, Tryz.ntmps49
  go_wp2_with fail
  rw [← HW.out]
  obtain ⟨w2, hw2⟩ : ∃ w2, w2 = W := ⟨_, rfl⟩
  rw [← hw2] at K0 ⊢
  have CP := HP.out w2 K0.out.1
  have K1 : Hid (Below w.heap.size w w2 ∧ S6 w2 (w.heap.size + 1) (.int .i64 0) (.int .i64 0) (.int .i64 0) (.slice none 0 0) (.slice none 0 0) (.slice none 0 0) ∧ w.heap.size + 1 < w2.heap.size) := ⟨K0.out.1, K0.out.2.2.1, by have := K0.out.2.2.2; omega⟩
  clear K0 hw2
  refine CP.mono ?_
  rintro r0 w3 ⟨⟨r, rfl, hQ⟩, hb3⟩
  have s6 := K1.out.2.1.keep hb3
  have HQ : Hid (QSto w3 w2.heap.size w3.heap.size r T1 T2 G ∧ w.heap.size + 1 < w2.heap.size ∧ Below w.heap.size w w3) := ⟨hQ, K1.out.2.2, K1.out.1.trans (hb3.mono K1.out.1.size)⟩
  have z0 := s6.c0
  have z1 := s6.c1
  have z2 := s6.c2
  have z3 := s6.c3
  have z4 := s6.c4
  have z5 := s6.c5
  have zf0 := s6.fr 0
  have zf1 := s6.fr 1
  have zf2 := s6.fr 2
  have zf3 := s6.fr 3
  have zf4 := s6.fr 4
  have zf5 := s6.fr 5
  clear s6 hQ hb3 K1 CP HP
  go_wp2_with fail
  refine bodyPost_ret (v := .agg #[.int .i64 c, .int .i64 bo, .int .i64 go, .slice r.s.a1 r.s.n1 r.s.k1, .slice r.s.a2 r.s.n2 r.s.k2, .slice r.a3 r.n3 r.k3]) (by simp [results, Tryz.results49, go_sem, z0, z1, z2, z3, z4, z5]) rfl ?_
  refine ⟨⟨r, rfl, QSto.lower (PurAns.off6 (A := ⟨c, bo, go, T1, T2, G⟩) HQ.out.1 HQ.out.2.1 _ _ _ _ _ _) (by have := HQ.out.2.1; omega)⟩, ?_⟩
  exact (((((HQ.out.2.2.setCell (by simp) _).setCell (by simp) _).setCell (by simp) _).setCell (by simp) _).setCell (by simp) _).setCell (by simp) _
end Go.Proofs.YtjfjfhoihhmbgaaGreatDoor
/-
  What purges answer fits what the laws take.
-/
namespace Go.Proofs.YtjfjfhoihhmbgaaGreatDoor
open Go.ChangeShapes Go.WideShapes Go.ChangeAt Go.RowKit Go.Sort
theorem resE_fit {hard : Bool} {p : Ent → Bool} {L : List Ent} (h : FitE L) : FitE (resE hard p L) := by
  cases hard
  · refine ⟨by simpa [resE, turnE] using h.n, fun x hx => ?_⟩
    obtain ⟨y, hy, rfl⟩ := List.mem_map.1 hx
    have f := h.f y hy
    by_cases c : p y = true
    · simp only [c, if_true]; exact ⟨f.h, f.b, f.t⟩
    · simp only [c]; exact f
  · exact ⟨Nat.le_trans (List.length_filter_le _ _) h.n, fun x hx => h.f x (List.mem_filter.1 hx).1⟩
theorem fit_no : FitE [] := ⟨by simp, by simp⟩
theorem fitE_of {tl kl : List (Ent × EntR)} (h : StoFit tl kl) : FitE (tl.map Prod.fst) ∧ FitE (kl.map Prod.fst) :=
  ⟨⟨by simpa using h.tn, fun x hx => by obtain ⟨q, hq, rfl⟩ := List.mem_map.1 hx; exact h.tf q hq⟩, ⟨by simpa using h.kn, fun x hx => by obtain ⟨q, hq, rfl⟩ := List.mem_map.1 hx; exact h.kf q hq⟩⟩
theorem purA_fit {bu gu : Int} {tl kl : List (Ent × EntR)} {p : Ent → Bool} {hard : Bool} (h : StoFit tl kl) : FitE (purA bu gu (tl.map Prod.fst) (kl.map Prod.fst) p hard).t ∧ FitE (purA bu gu (tl.map Prod.fst) (kl.map Prod.fst) p hard).k ∧ FitG (purA bu gu (tl.map Prod.fst) (kl.map Prod.fst) p hard).g := by
  unfold purA
  split
  · exact ⟨fit_no, fit_no, ⟨by simp [badQ]⟩⟩
  · rename_i h1
    have h0 : storeC bu gu (tl.map Prod.fst) (kl.map Prod.fst) = 0 := by simpa using h1
    have := (storeC_zero h0).2.1
    have k := keysP_len p (tl.map Prod.fst ++ kl.map Prod.fst)
    rw [List.length_append] at k
    exact ⟨resE_fit (fitE_of h).1, resE_fit (fitE_of h).2, ⟨by show (keysP p (tl.map Prod.fst ++ kl.map Prod.fst)).length ≤ 1000; omega⟩⟩
end Go.Proofs.YtjfjfhoihhmbgaaGreatDoor
/-
  The law of DropEntry.
-/
namespace Go.Proofs.YtjfjfhoihhmbgaaGreatDoor
open Go.ChangeShapes Go.WideShapes Go.ChangeAt Go.RowKit Go.Sort
theorem fil_fit {p : Ent → Bool} {L : List Ent} (h : FitE L) : FitE (L.filter p) := ⟨Nat.le_trans (List.length_filter_le _ _) h.n, fun x hx => h.f x (List.mem_filter.1 hx).1⟩
theorem dropA_fit {bu gu : Int} {tl kl : List (Ent × EntR)} {key : ByteArray} (h : StoFit tl kl) : FitE (dropA bu gu (tl.map Prod.fst) (kl.map Prod.fst) key).t ∧ FitE (dropA bu gu (tl.map Prod.fst) (kl.map Prod.fst) key).k := by
  unfold dropA
  split
  · exact ⟨fit_no, fit_no⟩
  · exact ⟨fil_fit (fitE_of h).1, fil_fit (fitE_of h).2⟩
set_option maxRecDepth 100000 in
set_option maxHeartbeats 16000000 in
theorem lawDropEntry (w : World) (bu gu : Int) (ta ka : Option Addr) (tc kc : Nat) (tl kl : List (Ent × EntR)) (key : ByteArray) (hset : SetIs w) (h1 : StoArg w ta ka tl kl) :
    Calls Tryz.prog 3 #[.agg #[.int .i64 bu, .int .i64 gu, .slice ta tl.length tc, .slice ka kl.length kc], .string key] w fun r w' => r = .returned (.bool true) ∧ Below w.heap.size w w' := by
  obtain ⟨W, hW⟩ : ∃ W, W = w.alloc (.cells #[.int .i64 bu, .int .i64 gu, .slice ta tl.length tc, .slice ka kl.length kc] 24) := ⟨_, rfl⟩
  have HW : Hid (W = w.alloc (.cells #[.int .i64 bu, .int .i64 gu, .slice ta tl.length tc, .slice ka kl.length kc] 24)) := hW
  have K0 : Hid (Below w.heap.size w W ∧ S4 W w.heap.size (.int .i64 bu) (.int .i64 gu) (.slice ta tl.length tc) (.slice ka kl.length kc)) := by
    rw [hW]; exact ⟨(Below.refl _ _).alloc (Nat.le_refl _) _, S4.new w _ _ _ _ _⟩
  by_cases ck : (1048576 : Int) < key.size
  · have KB : Hid (Below w.heap.size w W) := K0.out.1
    clear hW hset h1 K0
    go_enter Tryz.func3, Tryz.ntmps3
    go_wp2_with fail
    rw [← HW.out]
    go_ret
    exact ⟨rfl, KB.out⟩
  have HZ : Hid (∀ X, Below w.heap.size w X → Calls Tryz.prog 9 #[.agg #[.int .i64 bu, .int .i64 gu, .slice ta tl.length tc, .slice ka kl.length kc], .int .i64 1048576] X fun r w' => r = .returned (.int .i64 (szSt 1048576 tl kl)) ∧ Below X.heap.size X w') := fun X hb => szStore_arg X bu gu ta ka tc kc tl kl 1048576 (by omega) (by omega) (h1.keep hb)
  obtain ⟨ok, hok⟩ : ∃ P : Prop, P = (StoFit tl kl ∧ ∀ x ∈ (tl ++ kl).map Prod.fst, ∀ t ∈ x.ts, t.size ≤ 1048576) := ⟨_, rfl⟩
  have HR : Hid (¬ szSt 1048576 tl kl < 0 → ok) := fun h => by rw [hok]; exact ⟨(szSt_room (by omega) h).1, szSt_tags (by omega) h⟩
  have HT : Hid (ok → ∀ X, Below w.heap.size w X → Calls Tryz.prog 11 #[.agg #[.int .i64 bu, .int .i64 gu, .slice ta tl.length tc, .slice ka kl.length kc]] X fun ee w' => (∃ G1 G2, ee = .returned (.agg #[.int .i64 bu, .int .i64 gu, .slice (some ⟨G1, 0, none⟩) tl.length tl.length, .slice (some ⟨G2, 0, none⟩) kl.length kl.length]) ∧ StoNew w' G1 G2 tl kl ∧ X.heap.size ≤ G1) ∧ Below X.heap.size X w') := fun hf X hb => toStore_arg X bu gu ta ka tc kc tl kl (h1.keep hb) (hok ▸ hf).1
  have HQ : Hid (ok → ∀ X G1 G2 H1 H2, StoNew X G1 G2 tl kl → StoNew X H1 H2 tl kl → Calls Tryz.prog 14 #[.agg #[.int .i64 bu, .int .i64 gu, .slice (some ⟨G1, 0, none⟩) tl.length tl.length, .slice (some ⟨G2, 0, none⟩) kl.length kl.length], .agg #[.int .i64 bu, .int .i64 gu, .slice (some ⟨H1, 0, none⟩) tl.length tl.length, .slice (some ⟨H2, 0, none⟩) kl.length kl.length]] X fun r w' => r = .returned (.bool true) ∧ Below X.heap.size X w') := fun hf X G1 G2 H1 H2 h k => eqStore_new X bu gu tl kl G1 G2 H1 H2 (hok ▸ hf).1 h k
  have HM : Hid (ok → ∀ w0 X G1 G2 lo, StoNew w0 G1 G2 tl kl → Below w0.heap.size w0 X → lo ≤ G1 → Calls Tryz.prog 15 #[.agg #[.int .i64 bu, .int .i64 gu, .slice (some ⟨G1, 0, none⟩) tl.length tl.length, .slice (some ⟨G2, 0, none⟩) kl.length kl.length], .int .i64 1] X fun e w' => (∃ c1 : Nat, e = .returned (.int .i64 (c1 : Int)) ∧ 1 ≤ c1 ∧ c1 ≤ 10000000000000) ∧ Below lo X w' ∧ Above w0.heap.size X w') := fun hf w0 X G1 G2 lo h hX hlo => markSto_weak w0 X bu gu tl kl G1 G2 lo _ _ _ (hok ▸ hf).1 h hX hlo rfl
  obtain ⟨An, hAn⟩ : ∃ An : SAns, dropA bu gu (tl.map Prod.fst) (kl.map Prod.fst) key = An := ⟨_, rfl⟩
  have HFX : Hid (ok → FitE An.t ∧ FitE An.k) := fun hf => by rw [← hAn]; exact dropA_fit (hok ▸ hf).1
  have HS : Hid (ok → ∀ X G1 G2, StoNew X G1 G2 tl kl → Calls Tryz.prog 10 #[.agg #[.int .i64 bu, .int .i64 gu, .slice (some ⟨G1, 0, none⟩) tl.length tl.length, .slice (some ⟨G2, 0, none⟩) kl.length kl.length], .string key] X fun e w' => StoAns An X.heap.size e w' ∧ Below X.heap.size X w') := fun hf X G1 G2 h => by
    rw [← hAn]
    obtain ⟨a, b, e1, e2, m⟩ := h
    have l1 := len_map e1
    have l2 := len_map e2
    have hfit := (hok ▸ hf).1
    have hokk := ok_of h1 (hok ▸ hf).1
    rw [← l1, ← l2, ← e1, ← e2]
    exact specDropA_any X bu gu _ _ _ _ a b key (by rw [l1]; exact hfit.tn) (by rw [l2]; exact hfit.kn) (ok_map e1 e2 hokk) (fit_all e1 e2 hfit) m.t.in m.k.in
  have HG : Hid (ok → ∀ X G1 G2, Below w.heap.size w X → StoNew X G1 G2 tl kl → Calls Tryz.prog 12 #[.agg #[.int .i64 bu, .int .i64 gu, .slice (some ⟨G1, 0, none⟩) tl.length tl.length, .slice (some ⟨G2, 0, none⟩) kl.length kl.length], .string key] X fun e w' => StoAns An X.heap.size e w' ∧ Below X.heap.size X w') := fun hf X G1 G2 hb h => by
    rw [← hAn]
    obtain ⟨a, b, e1, e2, m⟩ := h
    have l1 := len_map e1
    have l2 := len_map e2
    have hfit := (hok ▸ hf).1
    have hokk := ok_of h1 (hok ▸ hf).1
    have htt : ∀ q ∈ a ++ b, ∀ t ∈ q.1.ts, t.size ≤ 1048576 := fun q hq => (hok ▸ hf).2 q.1 (by rw [List.map_append, ← e1, ← e2, ← List.map_append]; exact List.mem_map_of_mem hq)
    rw [← l1, ← l2, ← e1, ← e2]
    exact implDropE_any X bu gu _ _ _ _ a b key (hset.below hb) (by rw [l1]; exact hfit.tn) (by rw [l2]; exact hfit.kn) (ok_map e1 e2 hokk) htt m.t.in m.k.in
  clear h1 hW hset hAn hok
  obtain ⟨c, bo, go, L1, L2⟩ := An
  simp only [StoAns] at HS HG HFX
  generalize szSt 1048576 tl kl = z1 at *
  generalize tl.length = tn at *
  generalize kl.length = kn at *
  go_enter Tryz.func3, Tryz.ntmps3
  go_wp2_with fail
  rw [← HW.out]
  refine (HZ.out _ K0.out.1).mono ?_
  rintro e0 w1 ⟨rfl, hb1⟩
  have K1 : Hid (Below w.heap.size w w1 ∧ S4 w1 w.heap.size (.int .i64 bu) (.int .i64 gu) (.slice ta tn tc) (.slice ka kn kc)) := ⟨K0.out.1.trans (hb1.mono K0.out.1.size), K0.out.2.keep hb1⟩
  clear K0 HW HZ hb1
  by_cases cz : z1 < 0
  · clear HR HT HQ HS HG HM HFX
    go_wp2_with fail
    go_ret
    exact ⟨rfl, K1.out.1⟩
  have HF : Hid ok := HR.out (by omega)
  have HX : Hid (FitE L1 ∧ FitE L2) := HFX.out HF.out
  have HE : Hid (∀ X r s, RIn X r L1 L2 → RIn X s L1 L2 → Calls Tryz.prog 13 #[.agg #[.int .i64 c, .int .i64 bo, .int .i64 go, .slice r.a1 r.n1 r.k1, .slice r.a2 r.n2 r.k2], .agg #[.int .i64 c, .int .i64 bo, .int .i64 go, .slice s.a1 s.n1 s.k1, .slice s.a2 s.n2 s.k2]] X fun e w' => e = .returned (.bool true) ∧ Below X.heap.size X w') := fun X r s h k => eqStoR_r X c bo go r s L1 L2 HX.out.1 HX.out.2 h k
  clear HR HFX
  have e0 := K1.out.2.c0
  have e1 := K1.out.2.c1
  have e2 := K1.out.2.c2
  have e3 := K1.out.2.c3
  go_wp2_with fail
  refine (HT.out HF.out _ K1.out.1).mono ?_
  rintro r0 w2 ⟨⟨J1, J2, rfl, m2, _⟩, hb2⟩
  have K2 : Hid (Below w.heap.size w w2 ∧ S4 w2 w.heap.size (.int .i64 bu) (.int .i64 gu) (.slice ta tn tc) (.slice ka kn kc) ∧ StoNew w2 J1 J2 tl kl) := ⟨K1.out.1.trans (hb2.mono K1.out.1.size), K1.out.2.keep hb2, m2⟩
  clear K1 e0 e1 e2 e3 hb2 m2
  go_wp2_with fail
  refine (HS.out HF.out _ _ _ K2.out.2.2).mono ?_
  rintro r0 w3 ⟨⟨r, rfl, hr⟩, hb3⟩
  obtain ⟨V3, hV3⟩ : ∃ V, V = w3.alloc (.cells #[.int .i64 c, .int .i64 bo, .int .i64 go, .slice r.a1 r.n1 r.k1, .slice r.a2 r.n2 r.k2] 30) := ⟨_, rfl⟩
  have HV3 : Hid (V3 = w3.alloc (.cells #[.int .i64 c, .int .i64 bo, .int .i64 go, .slice r.a1 r.n1 r.k1, .slice r.a2 r.n2 r.k2] 30)) := hV3
  have K3 : Hid (Below w.heap.size w V3 ∧ S4 V3 w.heap.size (.int .i64 bu) (.int .i64 gu) (.slice ta tn tc) (.slice ka kn kc) ∧ S5 V3 w3.heap.size (.int .i64 c) (.int .i64 bo) (.int .i64 go) (.slice r.a1 r.n1 r.k1) (.slice r.a2 r.n2 r.k2) ∧ RIn V3 r L1 L2) := by
    have a3 : Below w3.heap.size w3 V3 := by rw [hV3]; exact (Below.refl _ _).alloc (Nat.le_refl _) _
    have b3 := K2.out.1.trans (hb3.mono K2.out.1.size)
    exact ⟨b3.trans (a3.mono b3.size), (K2.out.2.1.keep hb3).keep a3, by rw [hV3]; exact S5.new w3 _ _ _ _ _ _, hr.in.keep a3⟩
  clear K2 hb3 HS hV3 hr
  have e0 := K3.out.2.1.c0
  have e1 := K3.out.2.1.c1
  have e2 := K3.out.2.1.c2
  have e3 := K3.out.2.1.c3
  rw [HV3.out] at e0 e1 e2 e3
  go_wp2_with fail
  rw [← HV3.out]
  refine (HT.out HF.out _ K3.out.1).mono ?_
  rintro r0 w4 ⟨⟨G1, G2, rfl, m4, hG⟩, hb4⟩
  obtain ⟨V4, hV4⟩ : ∃ V, V = w4.alloc (.cells #[.int .i64 bu, .int .i64 gu, .slice (some ⟨G1, 0, none⟩) tn tn, .slice (some ⟨G2, 0, none⟩) kn kn] 28) := ⟨_, rfl⟩
  have HV4 : Hid (V4 = w4.alloc (.cells #[.int .i64 bu, .int .i64 gu, .slice (some ⟨G1, 0, none⟩) tn tn, .slice (some ⟨G2, 0, none⟩) kn kn] 28)) := hV4
  have K4 : Hid (Below w.heap.size w V4 ∧ S4 V4 w.heap.size (.int .i64 bu) (.int .i64 gu) (.slice ta tn tc) (.slice ka kn kc) ∧ S4 V4 w4.heap.size (.int .i64 bu) (.int .i64 gu) (.slice (some ⟨G1, 0, none⟩) tn tn) (.slice (some ⟨G2, 0, none⟩) kn kn) ∧ StoNew w4 G1 G2 tl kl ∧ Below w4.heap.size w4 V4 ∧ Below V3.heap.size V3 V4) := by
    have a4 : Below w4.heap.size w4 V4 := by rw [hV4]; exact (Below.refl _ _).alloc (Nat.le_refl _) _
    have b4 := K3.out.1.trans (hb4.mono K3.out.1.size)
    exact ⟨b4.trans (a4.mono b4.size), (K3.out.2.1.keep hb4).keep a4, by rw [hV4]; exact S4.new w4 _ _ _ _ _, m4, a4, hb4.trans (a4.mono hb4.size)⟩
  clear e0 e1 e2 e3 hb4 m4 hV4 HV3
  go_wp2_with fail
  rw [← HV4.out]
  refine (HG.out HF.out _ _ _ K4.out.1 (K4.out.2.2.2.1.keep K4.out.2.2.2.2.1)).mono ?_
  rintro r0 w5 ⟨⟨s, rfl, hs⟩, hb5⟩
  obtain ⟨V5, hV5⟩ : ∃ V, V = w5.alloc (.cells #[.int .i64 c, .int .i64 bo, .int .i64 go, .slice s.a1 s.n1 s.k1, .slice s.a2 s.n2 s.k2] 30) := ⟨_, rfl⟩
  have HV5 : Hid (V5 = w5.alloc (.cells #[.int .i64 c, .int .i64 bo, .int .i64 go, .slice s.a1 s.n1 s.k1, .slice s.a2 s.n2 s.k2] 30)) := hV5
  have K5 : Hid (Below V4.heap.size V4 V5 ∧ S5 V5 w5.heap.size (.int .i64 c) (.int .i64 bo) (.int .i64 go) (.slice s.a1 s.n1 s.k1) (.slice s.a2 s.n2 s.k2) ∧ RSto V5 V4.heap.size w5.heap.size s L1 L2 ∧ w5.heap.size ≤ V5.heap.size ∧ V4.heap.size ≤ w5.heap.size) := by
    have a5 : Below w5.heap.size w5 V5 := by rw [hV5]; exact (Below.refl _ _).alloc (Nat.le_refl _) _
    exact ⟨hb5.trans (a5.mono hb5.size), by rw [hV5]; exact S5.new w5 _ _ _ _ _ _, hs.below a5, a5.size, hb5.size⟩
  have K35 : Hid (Below V3.heap.size V3 V5) := K4.out.2.2.2.2.2.trans (K5.out.1.mono K4.out.2.2.2.2.2.size)
  clear hb5 hV5 HV4 hs
  have i0 := (K3.out.2.2.1.keep K35.out).c0
  have i1 := (K3.out.2.2.1.keep K35.out).c1
  have i2 := (K3.out.2.2.1.keep K35.out).c2
  have i3 := (K3.out.2.2.1.keep K35.out).c3
  have i4 := (K3.out.2.2.1.keep K35.out).c4
  rw [HV5.out] at i0 i1 i2 i3 i4
  go_wp2_with fail
  rw [← HV5.out]
  refine (HE.out _ s r K5.out.2.2.1.in (K3.out.2.2.2.keep K35.out)).mono ?_
  rintro e0 w6 ⟨rfl, hb6⟩
  obtain ⟨x0, hx0⟩ : ∃ q, q = w4.heap.size := ⟨_, rfl⟩
  have HX0 : Hid (x0 = w4.heap.size) := hx0
  have HK : Hid (∀ X, Below w6.heap.size w6 X → Below V5.heap.size V5 X) := fun X hX => hb6.trans (hX.mono hb6.size)
  have HKA : Hid (∀ X, Below V5.heap.size V5 X → Below w.heap.size w X ∧ S4 X w.heap.size (.int .i64 bu) (.int .i64 gu) (.slice ta tn tc) (.slice ka kn kc) ∧ S4 X x0 (.int .i64 bu) (.int .i64 gu) (.slice (some ⟨G1, 0, none⟩) tn tn) (.slice (some ⟨G2, 0, none⟩) kn kn) ∧ StoNew X G1 G2 tl kl) := fun X hX => by
    rw [hx0]
    have h4 : Below V4.heap.size V4 X := K5.out.1.trans (hX.mono K5.out.1.size)
    exact ⟨K4.out.1.trans (h4.mono K4.out.1.size), K4.out.2.1.keep h4, K4.out.2.2.1.keep h4, (K4.out.2.2.2.1.keep K4.out.2.2.2.2.1).keep h4⟩
  have HG1 : Hid (V3.heap.size ≤ G1) := hG
  clear i0 i1 i2 i3 i4 hb6 HV5 hG
  rw [← hx0]
  clear hx0
  have HKS : Hid (∀ X, Below w6.heap.size w6 X → X.cell? ⟨w.heap.size, 0, none⟩ = some (.int .i64 bu) ∧ X.cell? ⟨w.heap.size, 1, none⟩ = some (.int .i64 gu) ∧ X.cell? ⟨w.heap.size, 2, none⟩ = some (.slice ta tn tc) ∧ X.cell? ⟨w.heap.size, 3, none⟩ = some (.slice ka kn kc) ∧ X.cell? ⟨x0, 0, none⟩ = some (.int .i64 bu) ∧ X.cell? ⟨x0, 1, none⟩ = some (.int .i64 gu) ∧ X.cell? ⟨x0, 2, none⟩ = some (.slice (some ⟨G1, 0, none⟩) tn tn) ∧ X.cell? ⟨x0, 3, none⟩ = some (.slice (some ⟨G2, 0, none⟩) kn kn)) := fun X hX => by
    have hb := HKA.out X (HK.out X hX)
    exact ⟨hb.2.1.c0, hb.2.1.c1, hb.2.1.c2, hb.2.1.c3, hb.2.2.1.c0, hb.2.2.1.c1, hb.2.2.1.c2, hb.2.2.1.c3⟩
  have B0 : Hid (Below w6.heap.size w6 w6.drew) := (Below.refl _ _).drew
  go_wp2_with fail
  go_region_held3 (fun X => X.cell? ⟨w.heap.size, 0, none⟩ = some (.int .i64 bu) ∧ X.cell? ⟨w.heap.size, 1, none⟩ = some (.int .i64 gu) ∧ X.cell? ⟨w.heap.size, 2, none⟩ = some (.slice ta tn tc) ∧ X.cell? ⟨w.heap.size, 3, none⟩ = some (.slice ka kn kc) ∧ X.cell? ⟨x0, 0, none⟩ = some (.int .i64 bu) ∧ X.cell? ⟨x0, 1, none⟩ = some (.int .i64 gu) ∧ X.cell? ⟨x0, 2, none⟩ = some (.slice (some ⟨G1, 0, none⟩) tn tn) ∧ X.cell? ⟨x0, 3, none⟩ = some (.slice (some ⟨G2, 0, none⟩) kn kn))
    (first | exact HKS.out _ BB.out | exact HKS.out _ BA.out | exact HKS.out _ B0.out)
    (first
    | (go_at_call 11; refine (HT.out HF.out _ (HKA.out _ (HK.out _ B0.out)).1).mono ?_; rintro r0 wa ⟨⟨I1, I2, rfl, ma, _⟩, hba⟩; have BA : Hid (Below w6.heap.size w6 wa) := B0.out.trans (hba.mono B0.out.size); have MA : Hid (StoNew wa I1 I2 tl kl) := ma; clear hba ma)
    | (go_at_call 14; refine (HQ.out HF.out _ _ _ _ _ (HKA.out _ (HK.out _ BA.out)).2.2.2 MA.out).mono ?_; rintro r0 wb ⟨rfl, hbb⟩; have BB : Hid (Below w6.heap.size w6 wb) := BA.out.trans (hbb.mono BA.out.size); clear hbb))
  all_goals
    have KB : Hid (Below V5.heap.size V5 wb) := HK.out _ BB.out
    obtain ⟨x1, x2, x3, x4, x5, x6, x7, x8⟩ := HKS.out _ BB.out
    clear HK HKS B0 BA BB MA HQ
    go_wp2_with fail
    have h4b : Below w4.heap.size w4 wb := K4.out.2.2.2.2.1.trans ((K5.out.1.trans (KB.out.mono K5.out.1.size)).mono K4.out.2.2.2.2.1.size)
    refine (HM.out HF.out w4 wb G1 G2 V3.heap.size K4.out.2.2.2.1 h4b HG1.out).mono ?_
    rintro r0 w7 ⟨⟨k1, rfl, hk1, hk2⟩, hb7, ha7⟩
    have g7 : ¬ (k1 : Int) < 0 := by omega
    have H7 : Hid (Below w.heap.size w w7 ∧ S4 w7 w.heap.size (.int .i64 bu) (.int .i64 gu) (.slice ta tn tc) (.slice ka kn kc) ∧ S5 w7 w3.heap.size (.int .i64 c) (.int .i64 bo) (.int .i64 go) (.slice r.a1 r.n1 r.k1) (.slice r.a2 r.n2 r.k2) ∧ RIn w7 r L1 L2 ∧ S5 w7 w5.heap.size (.int .i64 c) (.int .i64 bo) (.int .i64 go) (.slice s.a1 s.n1 s.k1) (.slice s.a2 s.n2 s.k2) ∧ RSto w7 V4.heap.size w5.heap.size s L1 L2 ∧ Below V3.heap.size V3 w7 ∧ w5.heap.size ≤ w7.heap.size) := by
      have d3 : Below V3.heap.size V3 w7 := (K35.out.trans (KB.out.mono K35.out.size)).trans hb7
      have e4 := K4.out.2.2.2.2.1.size
      exact ⟨K3.out.1.trans (d3.mono K3.out.1.size), K3.out.2.1.keep d3, K3.out.2.2.1.keep d3, K3.out.2.2.2.keep d3, (K5.out.2.1.keep KB.out).above ha7 (by have := K5.out.2.2.2.2; omega), (K5.out.2.2.1.below KB.out).above ha7 (by omega), d3, by have := K5.out.2.2.2.1; have := KB.out.size; have := hb7.size; omega⟩
    clear hb7 ha7 h4b KB x1 x2 x3 x4 x5 x6 x7 x8 HM HKA K35 HG1 HX0
    have i0 := H7.out.2.2.1.c0
    have i1 := H7.out.2.2.1.c1
    have i2 := H7.out.2.2.1.c2
    have i3 := H7.out.2.2.1.c3
    have i4 := H7.out.2.2.1.c4
    have j0 := H7.out.2.2.2.2.1.c0
    have j1 := H7.out.2.2.2.2.1.c1
    have j2 := H7.out.2.2.2.2.1.c2
    have j3 := H7.out.2.2.2.2.1.c3
    have j4 := H7.out.2.2.2.2.1.c4
    go_wp2_with fail
    refine (HE.out _ s r H7.out.2.2.2.2.2.1.in H7.out.2.2.2.1).mono ?_
    rintro e0 w8 ⟨rfl, hb8⟩
    have H8 : Hid (Below w.heap.size w w8 ∧ S4 w8 w.heap.size (.int .i64 bu) (.int .i64 gu) (.slice ta tn tc) (.slice ka kn kc) ∧ S5 w8 w3.heap.size (.int .i64 c) (.int .i64 bo) (.int .i64 go) (.slice r.a1 r.n1 r.k1) (.slice r.a2 r.n2 r.k2) ∧ RIn w8 r L1 L2 ∧ S5 w8 w5.heap.size (.int .i64 c) (.int .i64 bo) (.int .i64 go) (.slice s.a1 s.n1 s.k1) (.slice s.a2 s.n2 s.k2) ∧ RSto w8 V4.heap.size w5.heap.size s L1 L2 ∧ Below V3.heap.size V3 w8 ∧ w5.heap.size ≤ w8.heap.size) := by
      have d3 : Below V3.heap.size V3 w8 := H7.out.2.2.2.2.2.2.1.trans (hb8.mono H7.out.2.2.2.2.2.2.1.size)
      exact ⟨K3.out.1.trans (d3.mono K3.out.1.size), K3.out.2.1.keep d3, K3.out.2.2.1.keep d3, K3.out.2.2.2.keep d3, H7.out.2.2.2.2.1.keep hb8, H7.out.2.2.2.2.2.1.below hb8, d3, by have := H7.out.2.2.2.2.2.2.2; have := hb8.size; omega⟩
    clear hb8 H7 g7 i0 i1 i2 i3 i4 j0 j1 j2 j3 j4
    have i0 := H8.out.2.2.2.2.1.c0
    have i1 := H8.out.2.2.2.2.1.c1
    have i2 := H8.out.2.2.2.2.1.c2
    have i3 := H8.out.2.2.2.2.1.c3
    have i4 := H8.out.2.2.2.2.1.c4
    go_wp2_with fail
    refine (markStoR_r w8 V4.heap.size w5.heap.size c bo go s L1 L2 HX.out.1 HX.out.2 (by have := H8.out.2.2.2.2.2.2.2; have := K5.out.2.2.2.2; omega) H8.out.2.2.2.2.2.1).mono ?_
    rintro e0 w9 ⟨rfl, hb9, ha9, hh9⟩
    have H9 : Hid (Below w.heap.size w w9 ∧ S4 w9 w.heap.size (.int .i64 bu) (.int .i64 gu) (.slice ta tn tc) (.slice ka kn kc) ∧ S5 w9 w3.heap.size (.int .i64 c) (.int .i64 bo) (.int .i64 go) (.slice r.a1 r.n1 r.k1) (.slice r.a2 r.n2 r.k2) ∧ RIn w9 r L1 L2 ∧ S5 w9 w5.heap.size (.int .i64 c) (.int .i64 bo) (.int .i64 go) (.slice s.a1 s.n1 s.k1) (.slice s.a2 s.n2 s.k2) ∧ RHeld w9 s L1 L2) := by
      have e4 := K4.out.2.2.2.2.2.size
      have d3 : Below V3.heap.size V3 w9 := H8.out.2.2.2.2.2.2.1.trans (hb9.mono e4)
      exact ⟨K3.out.1.trans (d3.mono K3.out.1.size), K3.out.2.1.keep d3, K3.out.2.2.1.keep d3, K3.out.2.2.2.keep d3, H8.out.2.2.2.2.1.above ha9 (Nat.le_refl _), hh9⟩
    clear hb9 ha9 hh9 H8 K3 K4 K5 i0 i1 i2 i3 i4
    have gq : ¬ (nStoE L1 L2 : Int) < 0 := by omega
    obtain ⟨N, hN⟩ : ∃ N : Int, (nStoE L1 L2 : Int) = N := ⟨_, rfl⟩
    have HH : Hid (∀ X, RHeld X s L1 L2 → Calls Tryz.prog 17 #[.agg #[.int .i64 c, .int .i64 bo, .int .i64 go, .slice s.a1 s.n1 s.k1, .slice s.a2 s.n2 s.k2], .int .i64 1] X fun e w' => e = .returned (.int .i64 N) ∧ Below X.heap.size X w') := fun X h => by
      rw [← hN]; exact heldStoR_r X c bo go s L1 L2 HX.out.1 HX.out.2 h
    rw [hN] at gq ⊢
    clear hN
    have i0 := H9.out.2.2.2.2.1.c0
    have i1 := H9.out.2.2.2.2.1.c1
    have i2 := H9.out.2.2.2.2.1.c2
    have i3 := H9.out.2.2.2.2.1.c3
    have i4 := H9.out.2.2.2.2.1.c4
    go_wp2_with fail
    refine (HH.out _ H9.out.2.2.2.2.2).mono ?_
    rintro e0 wc ⟨rfl, hbc⟩
    have HC : Hid (Below w.heap.size w wc ∧ S4 wc w.heap.size (.int .i64 bu) (.int .i64 gu) (.slice ta tn tc) (.slice ka kn kc) ∧ S5 wc w3.heap.size (.int .i64 c) (.int .i64 bo) (.int .i64 go) (.slice r.a1 r.n1 r.k1) (.slice r.a2 r.n2 r.k2) ∧ RIn wc r L1 L2 ∧ S5 wc w5.heap.size (.int .i64 c) (.int .i64 bo) (.int .i64 go) (.slice s.a1 s.n1 s.k1) (.slice s.a2 s.n2 s.k2) ∧ RHeld wc s L1 L2) := ⟨H9.out.1.trans (hbc.mono H9.out.1.size), H9.out.2.1.keep hbc, H9.out.2.2.1.keep hbc, H9.out.2.2.2.1.keep hbc, H9.out.2.2.2.2.1.keep hbc, H9.out.2.2.2.2.2.below hbc⟩
    clear hbc H9 i0 i1 i2 i3 i4
    have y0 := HC.out.2.1.c0
    have y1 := HC.out.2.1.c1
    have y2 := HC.out.2.1.c2
    have y3 := HC.out.2.1.c3
    go_wp2_with fail
    refine (HT.out HF.out _ HC.out.1).mono ?_
    rintro r0 wd ⟨⟨J3, J4, rfl, md, _⟩, hbd⟩
    have HD : Hid (Below w.heap.size w wd ∧ S5 wd w3.heap.size (.int .i64 c) (.int .i64 bo) (.int .i64 go) (.slice r.a1 r.n1 r.k1) (.slice r.a2 r.n2 r.k2) ∧ RIn wd r L1 L2 ∧ S5 wd w5.heap.size (.int .i64 c) (.int .i64 bo) (.int .i64 go) (.slice s.a1 s.n1 s.k1) (.slice s.a2 s.n2 s.k2) ∧ RHeld wd s L1 L2 ∧ StoNew wd J3 J4 tl kl) := ⟨HC.out.1.trans (hbd.mono HC.out.1.size), HC.out.2.2.1.keep hbd, HC.out.2.2.2.1.keep hbd, HC.out.2.2.2.2.1.keep hbd, HC.out.2.2.2.2.2.below hbd, md⟩
    clear hbd HC y0 y1 y2 y3 HT md
    go_wp2_with fail
    refine (HG.out HF.out _ _ _ HD.out.1 HD.out.2.2.2.2.2).mono ?_
    rintro r0 we ⟨⟨t, rfl, ht⟩, hbe⟩
    obtain ⟨VE, hVE⟩ : ∃ V, V = we.alloc (.cells #[.int .i64 c, .int .i64 bo, .int .i64 go, .slice t.a1 t.n1 t.k1, .slice t.a2 t.n2 t.k2] 30) := ⟨_, rfl⟩
    have HVE : Hid (VE = we.alloc (.cells #[.int .i64 c, .int .i64 bo, .int .i64 go, .slice t.a1 t.n1 t.k1, .slice t.a2 t.n2 t.k2] 30)) := hVE
    have HEE : Hid (Below w.heap.size w VE ∧ S5 VE w3.heap.size (.int .i64 c) (.int .i64 bo) (.int .i64 go) (.slice r.a1 r.n1 r.k1) (.slice r.a2 r.n2 r.k2) ∧ RIn VE r L1 L2 ∧ S5 VE w5.heap.size (.int .i64 c) (.int .i64 bo) (.int .i64 go) (.slice s.a1 s.n1 s.k1) (.slice s.a2 s.n2 s.k2) ∧ RHeld VE s L1 L2 ∧ RIn VE t L1 L2) := by
      have ae : Below we.heap.size we VE := by rw [hVE]; exact (Below.refl _ _).alloc (Nat.le_refl _) _
      have be := HD.out.1.trans (hbe.mono HD.out.1.size)
      exact ⟨be.trans (ae.mono be.size), (HD.out.2.1.keep hbe).keep ae, (HD.out.2.2.1.keep hbe).keep ae, (HD.out.2.2.2.1.keep hbe).keep ae, (HD.out.2.2.2.2.1.below hbe).below ae, ht.in.keep ae⟩
    clear hbe HD HG ht hVE
    have j0 := HEE.out.2.1.c0
    have j1 := HEE.out.2.1.c1
    have j2 := HEE.out.2.1.c2
    have j3 := HEE.out.2.1.c3
    have j4 := HEE.out.2.1.c4
    rw [HVE.out] at j0 j1 j2 j3 j4
    go_wp2_with fail
    rw [← HVE.out]
    refine (HE.out _ t r HEE.out.2.2.2.2.2 HEE.out.2.2.1).mono ?_
    rintro e0 wf ⟨rfl, hbf⟩
    have HFF : Hid (Below w.heap.size w wf ∧ S5 wf w5.heap.size (.int .i64 c) (.int .i64 bo) (.int .i64 go) (.slice s.a1 s.n1 s.k1) (.slice s.a2 s.n2 s.k2) ∧ RHeld wf s L1 L2) := ⟨HEE.out.1.trans (hbf.mono HEE.out.1.size), HEE.out.2.2.2.1.keep hbf, HEE.out.2.2.2.2.1.below hbf⟩
    clear hbf HEE HE HVE j0 j1 j2 j3 j4
    have i0 := HFF.out.2.1.c0
    have i1 := HFF.out.2.1.c1
    have i2 := HFF.out.2.1.c2
    have i3 := HFF.out.2.1.c3
    have i4 := HFF.out.2.1.c4
    go_wp2_with fail
    refine (HH.out _ HFF.out.2.2).mono ?_
    rintro e0 wg ⟨rfl, hbg⟩
    have HZZ : Hid (Below w.heap.size w wg) := HFF.out.1.trans (hbg.mono HFF.out.1.size)
    clear hbg HFF HH i0 i1 i2 i3 i4
    go_wp2_with fail
    go_ret
    exact ⟨rfl, HZZ.out⟩
end Go.Proofs.YtjfjfhoihhmbgaaGreatDoor
