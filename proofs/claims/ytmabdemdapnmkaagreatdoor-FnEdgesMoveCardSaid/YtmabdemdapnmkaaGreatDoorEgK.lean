/- What lies in memory while the upright sides come: a map, edges. No run of the program in it. -/
import Derived.Test.YtmabdemdapnmkaaGreatDoorEgJ
import Derived.Test.YtmabdemdapnmkaaGreatDoorEgH
namespace Go.Proofs.YtmabdemdapnmkaaGreatDoor
open Go.RowKit Go.Shelf Go.Maps
set_option linter.unusedVariables false
set_option linter.unusedSimpArgs false

def EdgeT (t : TypeId) : Prop := t = 32
/-- The map in block mb, of at most k entries; the edges in blocks from n on. -/
def UpW (d : Nat → Int → Int → Bool) (mb n k : Nat) (V : World) : Prop :=
  ∃ (D : DataW Unit) (M : Int → Int → Option Nat) (Ed : Nat → R4), V.ownsMap Tryz.prog 71 ptrElem mb k D ∧ MapIs D M ∧ UpI d M Ed ∧ (∀ c t b, M c t = some b → n ≤ b ∧ V.heap[b]? = some (eObj (Ed b)))
theorem ownsMap_block {A B : World} {mb k : Nat} {D : DataW Unit} (h : A.ownsMap Tryz.prog 71 ptrElem mb k D) (hb : B.heap[mb]? = A.heap[mb]?) : B.ownsMap Tryz.prog 71 ptrElem mb k D := by
  obtain ⟨es, clock, h1, r⟩ := h
  exact ⟨es, clock, hb.trans h1, r⟩
theorem UpW.step {d : Nat → Int → Int → Bool} {mb n k : Nat} {A B : World} (h : UpW d mb n k A) (hm : B.heap[mb]? = A.heap[mb]?) (hc : ∀ b e, n ≤ b → A.heap[b]? = some (eObj e) → B.heap[b]? = A.heap[b]?) : UpW d mb n k B := by
  obtain ⟨D, M, Ed, h1, h2, h3, h4⟩ := h
  exact ⟨D, M, Ed, ownsMap_block h1 hm, h2, h3, fun c t b hb => ⟨(h4 c t b hb).1, (hc b _ (h4 c t b hb).1 (h4 c t b hb).2).trans (h4 c t b hb).2⟩⟩
theorem UpW.mapLt {d : Nat → Int → Int → Bool} {mb n k : Nat} {A : World} (h : UpW d mb n k A) : mb < A.heap.size := by
  obtain ⟨D, M, Ed, h1, h2, h3, h4⟩ := h
  exact h1.lt
theorem UpW.below {d : Nat → Int → Int → Bool} {mb n k : Nat} {A B : World} (h : UpW d mb n k A) (hb : Below A.heap.size A B) : UpW d mb n k B :=
  h.step (hb.block _ h.mapLt) (fun b e _ he => hb.block _ (Array.getElem?_eq_some_iff.1 he).1)
theorem UpW.far {d : Nat → Int → Int → Bool} {mb n m k : Nat} {A B : World} (h : UpW d mb n k A) (hs : StepX m (fun _ => False) A B) (hm : mb < m) : UpW d mb n k B :=
  h.step (hs.below.block _ hm) (fun b e _ he => hs.cells _ _ _ (fun h => h) he)
theorem UpW.congr {d d' : Nat → Int → Int → Bool} {mb n k k' : Nat} {A : World} (h : UpW d mb n k A) (hd : ∀ o c t, o = 2 ∨ o = 3 → d' o c t = d o c t) (hk : k ≤ k') : UpW d' mb n k' A := by
  obtain ⟨D, M, Ed, h1, h2, h3, h4⟩ := h
  exact ⟨D, M, Ed, h1.mono hk, h2, h3.congr hd, h4⟩
theorem UpW.start (d : Nat → Int → Int → Bool) (h : ∀ o c t, o = 2 ∨ o = 3 → d o c t = false) (w : World) (n : Nat) : UpW d w.heap.size n 0 (w.alloc (.map #[] 0)) :=
  ⟨.map [], fun _ _ => none, fun _ => ⟨0, 0, 0, 0⟩, World.ownsMap_made w _ _ _, MapIs.start, UpI.start d h _, fun c t b hb => (by cases hb)⟩

theorem mapHT : Tryz.prog.underlying 122 = some (.map 71 124) := Tryz.underlying122
theorem zeroPE (w : World) : (zeroValue 124).run Tryz.prog w = .ok (.pointer none) w := by kernel_rfl

section
variable {F : Fence} {nF : Nat} (w : World) {ops : Array Oper} {rest : List Oper} {o : Oper} {a : Act} {Q : Exit → Act → World → Prop}
/-- A side that has come is found. -/
theorem lookP_some (hg : o.guard = none) (m x : Operand) (hop : o.op = Op.lookup 122 m x true) (b n : Nat) (D : DataW Unit) (hm : a.eval m = .map (some b)) (hown : w.ownsMap Tryz.prog 71 ptrElem b n D)
    {cx cy : Int} (hx : a.eval x = .agg #[.int .i64 cx, .int .i64 cy]) (h1 : Bd cx) (h2 : Bd cy) (k : Nat) (hh : Maps.has D (klP cx cy) = true) (hv : D.atKey (klP cx cy) .nil = pE k)
    (hK : wpListIn F nF Tryz.prog ops Q rest (a.put o.dst (.tuple #[.pointer (some ⟨k, 0, none⟩), .bool true])) w) : wpListIn F nF Tryz.prog ops Q (o :: rest) a w :=
  wpListIn_lookup_own_ok w hg m x _ hop _ _ keyedP mapHT ptrElem (zeroPE w) .nil [] ptrElem_nil b n D hm hown _ (klP cx cy) hx (keyOfP h1 h2) fun v ps hR => by
    rw [hv] at hR
    rw [hh]
    rcases ptrElem_inv hR with ⟨c, rfl, e⟩ | ⟨-, e⟩
    · obtain rfl := pE_inj e
      exact hK
    · exact absurd e (pE_nil _)
/-- One that has not is not. -/
theorem lookP_none (hg : o.guard = none) (m x : Operand) (hop : o.op = Op.lookup 122 m x true) (b n : Nat) (D : DataW Unit) (hm : a.eval m = .map (some b)) (hown : w.ownsMap Tryz.prog 71 ptrElem b n D)
    {cx cy : Int} (hx : a.eval x = .agg #[.int .i64 cx, .int .i64 cy]) (h1 : Bd cx) (h2 : Bd cy) (hh : Maps.has D (klP cx cy) = false)
    (hK : wpListIn F nF Tryz.prog ops Q rest (a.put o.dst (.tuple #[.pointer none, .bool false])) w) : wpListIn F nF Tryz.prog ops Q (o :: rest) a w :=
  wpListIn_lookup_own_ok w hg m x _ hop _ _ keyedP mapHT ptrElem (zeroPE w) .nil [] ptrElem_nil b n D hm hown _ (klP cx cy) hx (keyOfP h1 h2) fun v ps hR => by
    rw [atKey_of_not_has hh] at hR
    rw [hh]
    rcases ptrElem_inv hR with ⟨c, rfl, e⟩ | ⟨rfl, e⟩
    · exact absurd e.symm (pE_nil _)
    · exact hK
/-- A side is put in. -/
theorem putP (hg : o.guard = none) (m x v : Operand) (hop : o.op = Op.mapUpdate 122 m x v) (b n : Nat) (D : DataW Unit) (hm : a.eval m = .map (some b)) (hown : w.ownsMap Tryz.prog 71 ptrElem b n D) (hn : n < maxLen)
    {cx cy : Int} (hx : a.eval x = .agg #[.int .i64 cx, .int .i64 cy]) (h1 : Bd cx) (h2 : Bd cy) (k : Nat) (hv : a.eval v = .pointer (some ⟨k, 0, none⟩))
    (hK : ∀ w', w'.ownsMap Tryz.prog 71 ptrElem b (n + 1) (D.put (klP cx cy) (pE k)) → w.grownBy w' (some b) → wpListIn F nF Tryz.prog ops Q rest (a.put o.dst undef) w') : wpListIn F nF Tryz.prog ops Q (o :: rest) a w :=
  wpListIn_mapUpdate_own w hg m x v _ hop _ _ keyedP mapHT ptrElem b n D hm hown hn _ _ (klP cx cy) hx hv (keyOfP h1 h2) (pE k) [] (ptrElem_mk k) hK
end

/-- What is found of the side below, and what comes of it. -/
theorem UpI.below {f : Nat → Bool} {y x : Int} {i : Nat} {M : Int → Int → Option Nat} {Ed : Nat → R4} (hx : (runsL f y)[i]? = some x) (h : UpI (dn f y i) M Ed) {b : Nat} (hb : M x (y - 1) = some b) :
    ∃ o lo, (o = 2 ∨ o = 3) ∧ lo < y ∧ Ed b = mkE o x lo y ∧ dn f y i o x (y - 1) = true := by
  obtain ⟨o, lo, hi, ho, hm, t1, t2, e⟩ := h.edge _ _ _ hb
  have hh : hi = y := by
    apply Classical.byContradiction
    intro hne
    have := hm.2.1 y (by omega) (by omega)
    rw [dn_new hx] at this
    cases this
  subst hh
  exact ⟨o, lo, ho, by omega, e, hm.2.1 _ t1 t2⟩
theorem dn_excl {f : Nat → Bool} {y : Int} {i o o' : Nat} {c t : Int} (ho : o = 2 ∨ o = 3) (ho' : o' = 2 ∨ o' = 3) (h : dn f y i o c t = true) (hne : o' ≠ o) : dn f y i o' c t = false := by
  have h1 := (dn_t h).1
  cases h2 : dn f y i o' c t with
  | false => rfl
  | true =>
    have h3 := (dn_t h2).1
    rcases ho with rfl | rfl <;> rcases ho' with rfl | rfl
    · exact absurd rfl hne
    · rw [gS23 _ _ _ h1] at h3; cases h3
    · rw [gS23 _ _ _ h3] at h1; cases h1
    · exact absurd rfl hne
theorem UpI.none {f : Nat → Bool} {y x : Int} {i : Nat} {M : Int → Int → Option Nat} {Ed : Nat → R4} (h : UpI (dn f y i) M Ed) (hb : M x (y - 1) = none) {o : Nat} (ho : o = 2 ∨ o = 3) : dn f y i o x (y - 1) = false := by
  have := h.dom x (y - 1)
  rw [hb] at this
  have h2 : (dn f y i 2 x (y - 1) || dn f y i 3 x (y - 1)) = false := this.symm
  rw [Bool.or_eq_false_iff] at h2
  rcases ho with rfl | rfl
  · exact h2.1
  · exact h2.2
/-- The world behind a side that joins an edge. -/
theorem UpW.join {f : Nat → Bool} {y x lo : Int} {i : Nat} {mb n k b : Nat} {A B : World} {D : DataW Unit} {M : Int → Int → Option Nat} {Ed : Nat → R4} (hx : (runsL f y)[i]? = some x) (hbx : Bd x) (hby : Bd y)
    (h2 : MapIs D M) (h3 : UpI (dn f y i) M Ed) (h4 : ∀ c t b, M c t = some b → n ≤ b ∧ A.heap[b]? = some (eObj (Ed b))) (hb : M x (y - 1) = some b) (hE : Ed b = mkE (oI i) x lo y) (hlo : lo < y)
    (g1 : B.ownsMap Tryz.prog 71 ptrElem mb (k + 1) (D.put (klP x y) (pE b))) (g2 : B.heap[b]? = some (eObj (mkE (oI i) x lo (y + 1)))) (g3 : ∀ (j : Nat) (e : R4), j ≠ b → A.heap[j]? = some (eObj e) → B.heap[j]? = A.heap[j]?) : UpW (dn f y (i + 1)) mb n (k + 1) B :=
  ⟨_, _, _, g1, h2.put hbx hby b, UpI.join (o := oI i) h3 (oI_or i) (fun o' c t ho' => dn_step hx ho' c t) (fun o' _ => dn_up f y i o' x) hb hE hlo, fun c t j hj => by
    by_cases e : j = b
    · subst e
      rw [setEd_same]
      exact ⟨(h4 _ _ _ hb).1, g2⟩
    · have hj' : M c t = some j := by
        unfold putM at hj
        split at hj
        · cases hj; exact absurd rfl e
        · exact hj
      rw [setEd_other _ e]
      exact ⟨(h4 _ _ _ hj').1, (g3 j _ e (h4 _ _ _ hj').2).trans (h4 _ _ _ hj').2⟩⟩
/-- .. behind one that begins an edge. -/
theorem UpW.fresh {f : Nat → Bool} {y x : Int} {i : Nat} {mb n k b : Nat} {A B : World} {D : DataW Unit} {M : Int → Int → Option Nat} {Ed : Nat → R4} (hx : (runsL f y)[i]? = some x) (hbx : Bd x) (hby : Bd y)
    (h2 : MapIs D M) (h3 : UpI (dn f y i) M Ed) (h4 : ∀ c t b, M c t = some b → n ≤ b ∧ A.heap[b]? = some (eObj (Ed b))) (hlow : dn f y i (oI i) x (y - 1) = false) (hn : n ≤ b) (hnew : A.heap.size ≤ b)
    (g1 : B.ownsMap Tryz.prog 71 ptrElem mb (k + 1) (D.put (klP x y) (pE b))) (g2 : B.heap[b]? = some (eObj (mkE (oI i) x y (y + 1)))) (g3 : ∀ (j : Nat) (e : R4), A.heap[j]? = some (eObj e) → B.heap[j]? = A.heap[j]?) : UpW (dn f y (i + 1)) mb n (k + 1) B := by
  have hb : ∀ c t, M c t ≠ some b := fun c t e => by
    have := (Array.getElem?_eq_some_iff.1 (h4 c t b e).2).1
    omega
  refine ⟨_, _, _, g1, h2.put hbx hby b, UpI.fresh (o := oI i) h3 (oI_or i) (fun o' c t ho' => dn_step hx ho' c t) (fun o' _ => dn_up f y i o' x) (dn_new hx _) hlow hb, fun c t j hj => ?_⟩
  by_cases e : j = b
  · subst e
    rw [setEd_same]
    exact ⟨hn, g2⟩
  · have hj' : M c t = some j := by
      unfold putM at hj
      split at hj
      · cases hj; exact absurd rfl e
      · exact hj
    rw [setEd_other _ e]
    exact ⟨(h4 _ _ _ hj').1, (g3 j _ (h4 _ _ _ hj').2).trans (h4 _ _ _ hj').2⟩
end Go.Proofs.YtmabdemdapnmkaaGreatDoor
