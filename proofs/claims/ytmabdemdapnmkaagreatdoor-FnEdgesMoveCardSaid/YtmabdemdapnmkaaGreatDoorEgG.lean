/- Maps with points as keys and pointers as elements: what such a map reads as. No condition. -/
import Derived.Test.YtmabdemdapnmkaaGreatDoorEgA
import Derived.Maps.OwnIn
import Derived.Sort.MapsRangeIn
import Derived.Maps.RangeWalk
import Derived.DeepKeys4
namespace Go.Proofs.YtmabdemdapnmkaaGreatDoor
open Go.RowKit Go.Maps
set_option linter.unusedVariables false
set_option linter.unusedSimpArgs false

def klP (x y : Int) : Lit := .string (keyBytes [.int .i64 x, .int .i64 y])
theorem wfB {x : Int} (h : -1000 ≤ x ∧ x ≤ 1000) : (Lit.int .i64 x).wf = true := WalkArith.wf_i64 (by omega)
theorem ptHu : Tryz.prog.underlying 71 = some (.struct (Tryz.prog.fieldsOf 71)) := by kernel_rfl
theorem ptHf : (Tryz.prog.fieldsOf 71).toList.map (fun f => (f.name, f.type, f.offset)) = [("X", 2, 0), ("Y", 2, 1)] := by kernel_rfl
theorem ptKey : Tryz.prog.keyType 71 = true := by kernel_rfl
theorem ptCells : Tryz.prog.cellsOf 71 = 2 := by kernel_rfl
theorem i64Cells : Tryz.prog.cellsOf 2 = 1 := by kernel_rfl
theorem ptSize : ∃ m, Tryz.prog.types.size = m + 1 := ⟨Tryz.prog.types.size - 1, by have : 0 < Tryz.prog.types.size := of_decide_eq_true (by kernel_rfl); omega⟩
theorem laidOutE : laidOutB Tryz.prog = true := by kernel_rfl
theorem ptRow : (71 : TypeId) < Tryz.prog.types.size := of_decide_eq_true (by kernel_rfl)
theorem ptKeyT : Tryz.prog.keyTypeAt 2 71 = true := by kernel_rfl
theorem keyLawP : Go.WideMaps.KeyLaw Tryz.prog 71 := deep_law_laid laidOutE (m := 2) (by omega) ptRow ptKeyT (by rw [ptHu])
theorem keyedP : Keyed Tryz.prog 71 := Keyed.of_law keyLawP

theorem ptLits (c0 c1 : Value) : Tryz.prog.keyLits (Tryz.prog.types.size + 1) 71 [c0, c1] = match c0, c1 with
    | .int .i64 x, .int .i64 y => if (Lit.int .i64 x).wf = true ∧ (Lit.int .i64 y).wf = true then some [.int .i64 x, .int .i64 y] else none
    | _, _ => none := by
  obtain ⟨m, hm⟩ := ptSize
  have hf := ptHf
  have hq : ∀ v, Tryz.prog.keyLits (m + 1) 2 [v] = match v with | .int .i64 x => (if (Lit.int .i64 x).wf = true then some [.int .i64 x] else none) | _ => none := by
    intro v
    unfold Program.keyLits
    rw [Tryz.underlying2]
    cases v <;> try rfl
    rename_i k n
    cases k <;> simp
  rw [hm]
  unfold Program.keyLits
  rw [ptHu]
  generalize Tryz.prog.fieldsOf 71 = F at hf
  obtain ⟨fs⟩ := F
  simp only at hf
  rcases fs with _ | ⟨f0, _ | ⟨f1, _ | ⟨f2, r⟩⟩⟩
  · simp at hf
  · simp at hf
  · simp only [List.map_cons, List.map_nil, List.cons.injEq, Prod.mk.injEq, and_true] at hf
    obtain ⟨⟨n0, t0, o0⟩, n1, t1, o1⟩ := hf
    simp only [ptCells, List.length_cons, List.length_nil]
    rw [if_pos (by simp [n0, n1])]
    simp only [List.mapM_cons, List.mapM_nil, t0, o0, t1, o1, i64Cells, List.drop_zero, List.take_succ_cons, List.take_zero, List.drop_succ_cons, hq]
    cases c0 <;> (try simp; done) <;> cases c1 <;> (try simp; done)
    · rename_i k n k' n'
      cases k <;> (try simp; done) <;> cases k' <;> (try simp; done)
      · by_cases h0 : (Lit.int .i64 n).wf = true <;> by_cases h1 : (Lit.int .i64 n').wf = true <;> simp [h0, h1]
  · simp at hf

theorem keyOfP {x y : Int} (hx : -1000 ≤ x ∧ x ≤ 1000) (hy : -1000 ≤ y ∧ y ≤ 1000) : keyOf Tryz.prog 71 (.agg #[.int .i64 x, .int .i64 y]) = some (klP x y) := by
  unfold keyOf
  rw [ptHu]
  simp only
  rw [if_pos (by simp [ptKey, Value.formed, ptHu, ptCells])]
  simp only [Value.cells]
  rw [ptLits]
  simp [wfB hx, wfB hy, klP]
theorem keyP_inv {v : Value} {l : Lit} (h : keyOf Tryz.prog 71 v = some l) : ∃ x y : Int, v = .agg #[.int .i64 x, .int .i64 y] ∧ l = klP x y := by
  unfold keyOf at h
  rw [ptHu] at h
  simp only at h
  split at h
  · rename_i hc
    rw [Bool.and_eq_true] at hc
    have hf := hc.2
    cases v with
    | agg cs =>
      simp only [Value.formed, ptHu, ptCells, beq_iff_eq] at hf
      obtain ⟨l0⟩ := cs
      rcases l0 with _ | ⟨c0, _ | ⟨c1, _ | ⟨c2, r⟩⟩⟩
      · simp at hf
      · simp at hf
      · simp only [Value.cells] at h
        rw [ptLits] at h
        cases c0 <;> (try (simp at h; done)) <;> cases c1 <;> (try (simp at h; done))
        rename_i k n k' n'
        cases k <;> (try (simp at h; done)) <;> cases k' <;> (try (simp at h; done))
        simp only at h
        split at h
        · simp at h
          exact ⟨n, n', rfl, h.symm⟩
        · simp at h
      · simp at hf
    | _ => simp [Value.formed, ptHu] at hf
  · cases h
theorem klP_inj {x y x' y' : Int} (hx : -1000 ≤ x ∧ x ≤ 1000) (hy : -1000 ≤ y ∧ y ≤ 1000) (hx' : -1000 ≤ x' ∧ x' ≤ 1000) (hy' : -1000 ≤ y' ∧ y' ≤ 1000) (h : klP x y = klP x' y') : x = x' ∧ y = y' := by
  have := keyedP.inj (keyOfP hx hy) (by rw [h]; exact keyOfP hx' hy')
  simpa using this

/-- How a pointer reads that is a map's element: as its block's number. -/
def pE (b : Nat) : DataW Unit := .lit (.int .i64 (b : Int))
def ptrElem : Value → Option (DataW Unit × List MemPlace)
  | .pointer (some ⟨b, 0, none⟩) => some (pE b, [])
  | .pointer none => some (.nil, [])
  | _ => none
theorem ptrElem_mk (b : Nat) : ptrElem (.pointer (some ⟨b, 0, none⟩)) = some (pE b, []) := rfl
theorem ptrElem_nil : ptrElem (.pointer none) = some (.nil, []) := rfl
theorem ptrElem_inv {v : Value} {d : DataW Unit} {ps : List MemPlace} (h : ptrElem v = some (d, ps)) : (∃ b, v = .pointer (some ⟨b, 0, none⟩) ∧ d = pE b) ∨ (v = .pointer none ∧ d = .nil) := by
  unfold ptrElem at h
  split at h
  · rename_i b
    simp at h
    exact .inl ⟨b, rfl, h.1.symm⟩
  · simp at h
    exact .inr ⟨rfl, h.1.symm⟩
  · cases h
theorem pE_inj {b c : Nat} (h : pE b = pE c) : b = c := by
  simp [pE] at h
  omega
theorem pE_nil (b : Nat) : pE b ≠ .nil := by simp [pE]

def Bd (x : Int) : Prop := -1000 ≤ x ∧ x ≤ 1000
/-- The map reads as M. -/
structure MapIs (D : DataW Unit) (M : Int → Int → Option Nat) : Prop where
  isMap : IsMap D
  has : ∀ x y, Bd x → Bd y → Maps.has D (klP x y) = (M x y).isSome
  val : ∀ x y b, Bd x → Bd y → M x y = some b → ∀ z, D.atKey (klP x y) z = pE b
  keys : ∀ kl, Maps.has D kl = true → ∃ x y, Bd x ∧ Bd y ∧ kl = klP x y
theorem MapIs.start : MapIs (.map []) (fun _ _ => none) := ⟨isMap_empty, fun _ _ _ _ => rfl, fun _ _ _ _ _ h => (by cases h), fun _ h => (by cases h)⟩
def putM (M : Int → Int → Option Nat) (x y : Int) (b : Nat) : Int → Int → Option Nat := fun x' y' => if x' = x ∧ y' = y then some b else M x' y'
theorem isKeyP {x y : Int} (hx : Bd x) (hy : Bd y) : WideAt.IsKeyLit (klP x y) := keyedP.key (keyOfP hx hy)
theorem MapIs.put {D : DataW Unit} {M : Int → Int → Option Nat} (h : MapIs D M) {x y : Int} (hx : Bd x) (hy : Bd y) (b : Nat) : MapIs (D.put (klP x y) (pE b)) (putM M x y b) where
  isMap := h.isMap.put _ _
  has x' y' hx' hy' := by
    unfold putM
    by_cases e : x' = x ∧ y' = y
    · rw [if_pos e, e.1, e.2, has_put_same h.isMap (isKeyP hx hy)]; rfl
    · rw [if_neg e, has_put_other (fun k => e (klP_inj hx' hy' hx hy k))]
      exact h.has x' y' hx' hy'
  val x' y' c hx' hy' hm z := by
    unfold putM at hm
    by_cases e : x' = x ∧ y' = y
    · rw [if_pos e] at hm
      cases hm
      rw [e.1, e.2, atKey_put_same h.isMap (isKeyP hx hy)]
    · rw [if_neg e] at hm
      rw [atKey_put_other (fun k => e (klP_inj hx' hy' hx hy k))]
      exact h.val x' y' c hx' hy' hm z
  keys kl hk := by
    by_cases e : kl = klP x y
    · exact ⟨x, y, hx, hy, e⟩
    · rw [has_put_other e] at hk
      exact h.keys kl hk
end Go.Proofs.YtmabdemdapnmkaaGreatDoor
