/- The model's insertion of an edge into a sorted list. Condition: the list's cells are in memory. -/
import Derived.Test.YtmabdemdapnmkaaDoorEgC
namespace Go.Proofs.YtmabdemdapnmkaaDoor
open Go.RowKit
set_option linter.unusedVariables false
set_option linter.unusedSimpArgs false
attribute [local go_sem ↓] Go.wp_at_zero Go.wp_at_succ

theorem eqEc (a b c d p q r s : Int) (w : World) : (Op.equalIn 10000 35 (.agg #[.int .i64 a, .int .i64 b, .int .i64 c, .int .i64 d]) (.agg #[.int .i64 p, .int .i64 q, .int .i64 r, .int .i64 s])).run Tryd.prog w = .ok (eqRB a b c d p q r s) w := by
  have hq : ∀ (a b : Int) (w : World), (Op.equalIn 9999 2 (.int .i64 a) (.int .i64 b)).run Tryd.prog w = .ok (a == b) w := fun a b w => run_equalIn_int w 9998 _ _ .i64 a b Tryd.underlying2
  have hs : Tryd.prog.stoodInHeld 35 = false := by kernel_rfl
  have hu : Tryd.prog.underlying 35 = some (.struct (Tryd.prog.fieldsOf 35)) := by kernel_rfl
  rw [run_equalIn_agg w 9999 _ _ _ hu hs]
  have hp : ∀ (x0 x1 x2 x3 : Int) (w : World), (part 2 #[.int .i64 x0, .int .i64 x1, .int .i64 x2, .int .i64 x3] 0).run Tryd.prog w = .ok (.int .i64 x0) w ∧ (part 2 #[.int .i64 x0, .int .i64 x1, .int .i64 x2, .int .i64 x3] 1).run Tryd.prog w = .ok (.int .i64 x1) w ∧ (part 2 #[.int .i64 x0, .int .i64 x1, .int .i64 x2, .int .i64 x3] 2).run Tryd.prog w = .ok (.int .i64 x2) w ∧ (part 2 #[.int .i64 x0, .int .i64 x1, .int .i64 x2, .int .i64 x3] 3).run Tryd.prog w = .ok (.int .i64 x3) w :=
    fun _ _ _ _ _ => ⟨by kernel_rfl, by kernel_rfl, by kernel_rfl, by kernel_rfl⟩
  have hf : (Tryd.prog.fieldsOf 35).toList.map (fun f => (f.name, f.type, f.offset)) = [("X0", 2, 0), ("Y0", 2, 1), ("X1", 2, 2), ("Y1", 2, 3)] := by kernel_rfl
  generalize (Tryd.prog.fieldsOf 35).toList = fs at hf
  rcases fs with _ | ⟨f0, _ | ⟨f1, _ | ⟨f2, _ | ⟨f3, _ | ⟨f4, r⟩⟩⟩⟩⟩
  · simp at hf
  · simp at hf
  · simp at hf
  · simp at hf
  · simp only [List.map_cons, List.map_nil, List.cons.injEq, Prod.mk.injEq, and_true] at hf
    obtain ⟨⟨n0, t0, o0⟩, ⟨n1, t1, o1⟩, ⟨n2, t2, o2⟩, n3, t3, o3⟩ := hf
    simp only [Op.eqFields, n0, t0, o0, n1, t1, o1, n2, t2, o2, n3, t3, o3, eqRB]
    simp only [ne_eq, String.reduceEq, not_false_eq_true, if_true, Sem.run_bind, (hp _ _ _ _ _).1, (hp _ _ _ _ _).2.1, (hp _ _ _ _ _).2.2.1, (hp _ _ _ _ _).2.2.2, Result.andThen_ok, hq, Sem.run_ite, Sem.run_pure]
    cases h0 : a == p <;> cases h1 : b == q <;> cases h2 : c == r <;> cases h3 : d == s <;> simp
  · simp at hf
theorem eqRB_iff (e g : R4) : eqRB e.a e.b e.c e.d g.a g.b g.c g.d = decide (e = g) := by
  rw [Bool.eq_iff_iff, decide_eq_true_eq]
  unfold eqRB
  simp only [Bool.and_eq_true, beq_iff_eq]
  exact ⟨fun h => R4_ext h.1 h.2.1 h.2.2.1 h.2.2.2, fun h => by subst h; exact ⟨rfl, rfl, rfl, rfl⟩⟩

theorem infoE : (Tryd.prog.info? 35).map (fun i => (i.zero, i.size, i.bytes)) = (Tryd.prog.info? 48).map (fun i => (i.zero, i.size, i.bytes)) := by kernel_rfl
theorem erec_own {w : World} {B g n cap : Nat} {l : List R4} (h : w.ownsRow B 35 4 (.slice (some ⟨g, 0, none⟩) n cap) n (recCells l)) : RecIs B w g l := by
  have hl := h.lt g rfl
  refine ⟨hl.1, hl.2, fun i r hr => ?_⟩
  obtain ⟨h0, h1, h2, h3⟩ := recCells_at l i r hr
  have c0 := h.cells (g := g) rfl _ _ h0
  have c1 := h.cells (g := g) rfl _ _ h1
  have c2 := h.cells (g := g) rfl _ _ h2
  have c3 := h.cells (g := g) rfl _ _ h3
  rw [addG] at c0 c1 c2 c3
  exact ⟨c0, c1, c2, c3⟩
theorem erec_next {W : World} {B : Nat} {v : Value} {n : Nat} {l : List R4} {r : R4} (hn : n = l.length) (h : W.ownsRow B 35 4 v (n + 1) (recCells l ++ r4cells r)) :
    ∃ g cap, v = .slice (some ⟨g, 0, none⟩) (l ++ [r]).length cap ∧ W.ownsRow B 35 4 (.slice (some ⟨g, 0, none⟩) (l ++ [r]).length cap) (l ++ [r]).length (recCells (l ++ [r])) := by
  subst hn
  have e : (l ++ [r]).length = l.length + 1 := by simp
  rw [e, recCells_snoc]
  rcases h.2 with ⟨_, h0⟩ | ⟨g, cap, cur, rfl, _⟩
  · omega
  · exact ⟨g, cap, rfl, h⟩
theorem RecIs.extE {B : Nat} {w w' : World} {h : Nat} {l : List R4} (hR : RecIs B w h l) (hb : Below w.heap.size w w') : RecIs B w' h l :=
  ⟨hR.1, Nat.lt_of_lt_of_le hR.2.1 hb.size, fun i r hr => by
    obtain ⟨c0, c1, c2, c3⟩ := hR.2.2 i r hr
    exact ⟨(hb.cell (p := ⟨h, i * 4, none⟩) hR.2.1).trans c0, (hb.cell (p := ⟨h, i * 4 + 1, none⟩) hR.2.1).trans c1, (hb.cell (p := ⟨h, i * 4 + 2, none⟩) hR.2.1).trans c2, (hb.cell (p := ⟨h, i * 4 + 3, none⟩) hR.2.1).trans c3⟩⟩

theorem erec_cells {B h : Nat} {w : World} {l : List R4} (hR : RecIs B w h l) : ∀ j u, (recCells l)[j]? = some u → w.cell? ((⟨h, 0, none⟩ : Addr).add j) = some u := fun j u hj => by
  have hjl : j < l.length * 4 := by have := (List.getElem?_eq_some_iff.1 hj).1; rwa [recCells_len] at this
  obtain ⟨r, hr⟩ : ∃ r, l[j / 4]? = some r := ⟨_, List.getElem?_eq_getElem (by omega)⟩
  obtain ⟨c0, c1, c2, c3⟩ := hR.2.2 (j / 4) r hr
  obtain ⟨r0, r1, r2, r3⟩ := recCells_at l (j / 4) r hr
  rw [addG]
  have e : j = j / 4 * 4 ∨ j = j / 4 * 4 + 1 ∨ j = j / 4 * 4 + 2 ∨ j = j / 4 * 4 + 3 := by omega
  rcases e with e | e | e | e
  · rw [e] at hj ⊢; rw [r0] at hj; cases hj; exact c0
  · rw [e] at hj ⊢; rw [r1] at hj; cases hj; exact c1
  · rw [e] at hj ⊢; rw [r2] at hj; cases hj; exact c2
  · rw [e] at hj ⊢; rw [r3] at hj; cases hj; exact c3
theorem erec_cellsT {B h i : Nat} {w : World} {l : List R4} (hR : RecIs B w h l) (hi : i ≤ l.length) : ∀ j u, (recCells (l.take i))[j]? = some u → w.cell? ((⟨h, 0, none⟩ : Addr).add j) = some u := fun j u hj => by
  refine erec_cells hR j u ?_
  have e : recCells l = recCells (l.take i) ++ recCells (l.drop i) := by unfold recCells; rw [← List.flatMap_append, List.take_append_drop]
  rw [e, List.getElem?_append_left (List.getElem?_eq_some_iff.1 hj).1]
  exact hj
theorem erec_cellsD {B h i : Nat} {w : World} {l : List R4} (hR : RecIs B w h l) (hi : i ≤ l.length) : ∀ j u, (recCells (l.drop i))[j]? = some u → w.cell? ((⟨h, i * 4, none⟩ : Addr).add j) = some u := fun j u hj => by
  have h1 := erec_cells hR (i * 4 + j) u (by
    have e : recCells l = recCells (l.take i) ++ recCells (l.drop i) := by unfold recCells; rw [← List.flatMap_append, List.take_append_drop]
    have el : (recCells (l.take i)).length = i * 4 := by rw [recCells_len, List.length_take]; omega
    rw [e, List.getElem?_append_right (by omega), el, Nat.add_sub_cancel_left]
    exact hj)
  rw [addG] at h1
  have e2 : (⟨h, i * 4, none⟩ : Addr).add j = ⟨h, i * 4 + j, none⟩ := by
    cases j <;> rfl
  rw [e2]
  exact h1
theorem erec_one (l : List R4) : ∀ u ∈ recCells l, u.oneCell' = true := fun u hu => by
  unfold recCells at hu
  obtain ⟨r, hr, hu⟩ := List.mem_flatMap.1 hu
  unfold r4cells at hu
  simp at hu
  rcases hu with rfl | rfl | rfl | rfl <;> rfl
theorem e1_news {w1 : World} (e : R4) : ∀ j u, (r4cells e)[j]? = some u → (w1.alloc (.cells #[.int .i64 e.a, .int .i64 e.b, .int .i64 e.c, .int .i64 e.d] 35)).cell? ((⟨w1.heap.size, 0, none⟩ : Addr).add j) = some u := by
  intro j u hj
  unfold r4cells at hj
  match j, hj with
  | 0, hj => simp at hj; subst hj; rw [addG]; simp [go_sem]
  | 1, hj => simp at hj; subst hj; rw [addG]; simp [go_sem]
  | 2, hj => simp at hj; subst hj; rw [addG]; simp [go_sem]
  | 3, hj => simp at hj; subst hj; rw [addG]; simp [go_sem]
  | (k + 4), hj => simp at hj
theorem eown_some {w : World} {B n : Nat} {v : Value} {l : List R4} (hn : n = l.length) (h : w.ownsRow B 35 4 v n (recCells l)) (hv : v ≠ .slice none 0 0) : ∃ h' c, v = .slice (some ⟨h', 0, none⟩) l.length c ∧ l.length ≤ c ∧ w.ownsRow B 35 4 (.slice (some ⟨h', 0, none⟩) l.length c) l.length (recCells l) := by
  subst hn
  rcases h.2 with ⟨rfl, _⟩ | ⟨g, cap, cur, rfl, _, _, h3, _⟩
  · exact absurd rfl hv
  · exact ⟨g, cap, rfl, h3, h⟩
theorem eown_n {w : World} {B n : Nat} {v : Value} {xs : List Value} (h : w.ownsRow B 35 4 v n xs) (hv : v ≠ .slice none 0 0) : ∃ h' c, v = .slice (some ⟨h', 0, none⟩) n c ∧ n ≤ c ∧ w.ownsRow B 35 4 (.slice (some ⟨h', 0, none⟩) n c) n xs := by
  rcases h.2 with ⟨rfl, _⟩ | ⟨g, cap, cur, rfl, _, _, h3, _⟩
  · exact absurd rfl hv
  · exact ⟨g, cap, rfl, h3, h⟩
theorem infoEd : (Tryd.prog.info? 35).map (fun i => (i.zero, i.size, i.bytes)) = some (some (.agg #[.int .i64 0, .int .i64 0, .int .i64 0, .int .i64 0]), 4, 32) := by kernel_rfl

end Go.Proofs.YtmabdemdapnmkaaDoor
