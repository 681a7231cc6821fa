/- The model's insertion of an edge into a sorted list. Condition: the list's cells are in memory. -/
import Derived.Test.YtmabdemdapnmkaaGreatDoorEgC
namespace Go.Proofs.YtmabdemdapnmkaaGreatDoor
open Go.RowKit
set_option linter.unusedVariables false
set_option linter.unusedSimpArgs false
attribute [local go_sem ↓] Go.wp_at_zero Go.wp_at_succ

theorem eqEc (a b c d p q r s : Int) (w : World) : (Op.equalIn 10000 32 (.agg #[.int .i64 a, .int .i64 b, .int .i64 c, .int .i64 d]) (.agg #[.int .i64 p, .int .i64 q, .int .i64 r, .int .i64 s])).run Tryz.prog w = .ok (eqRB a b c d p q r s) w := by
  have hq : ∀ (a b : Int) (w : World), (Op.equalIn 9999 2 (.int .i64 a) (.int .i64 b)).run Tryz.prog w = .ok (a == b) w := fun a b w => run_equalIn_int w 9998 _ _ .i64 a b Tryz.underlying2
  have hs : Tryz.prog.stoodInHeld 32 = false := by kernel_rfl
  have hu : Tryz.prog.underlying 32 = some (.struct (Tryz.prog.fieldsOf 32)) := by kernel_rfl
  rw [run_equalIn_agg w 9999 _ _ _ hu hs]
  have hp : ∀ (x0 x1 x2 x3 : Int) (w : World), (part 2 #[.int .i64 x0, .int .i64 x1, .int .i64 x2, .int .i64 x3] 0).run Tryz.prog w = .ok (.int .i64 x0) w ∧ (part 2 #[.int .i64 x0, .int .i64 x1, .int .i64 x2, .int .i64 x3] 1).run Tryz.prog w = .ok (.int .i64 x1) w ∧ (part 2 #[.int .i64 x0, .int .i64 x1, .int .i64 x2, .int .i64 x3] 2).run Tryz.prog w = .ok (.int .i64 x2) w ∧ (part 2 #[.int .i64 x0, .int .i64 x1, .int .i64 x2, .int .i64 x3] 3).run Tryz.prog w = .ok (.int .i64 x3) w :=
    fun _ _ _ _ _ => ⟨by kernel_rfl, by kernel_rfl, by kernel_rfl, by kernel_rfl⟩
  have hf : (Tryz.prog.fieldsOf 32).toList.map (fun f => (f.name, f.type, f.offset)) = [("X0", 2, 0), ("Y0", 2, 1), ("X1", 2, 2), ("Y1", 2, 3)] := by kernel_rfl
  generalize (Tryz.prog.fieldsOf 32).toList = fs at hf
  rcases fs with _ | ⟨f0, _ | ⟨f1, _ | ⟨f2, _ | ⟨f3, _ | ⟨f4, r⟩⟩⟩⟩⟩
  · simp at hf
  · simp at hf
  · simp at hf
  · simp at hf
  · simp only [List.map_cons, List.map_nil, List.cons.injEq, Prod.mk.injEq, and_true] at hf
    obtain ⟨⟨n0, t0, o0⟩, ⟨n1, t1, o1⟩, ⟨n2, t2, o2⟩, n3, t3, o3⟩ := hf
    simp only [Op.eqFields, n0, t0, o0, n1, t1, o1, n2, t2, o2, n3, t3, o3, eqRB]
    simp only [ne_eq, String.reduceEq, not_false_eq_true, if_true, Sem.run_bind, (hp _ _ _ _ _).1, (hp _ _ _ _ _).2.1, (hp _ _ _ _ _).2.2.1, (hp _ _ _ _ _).2.2.2, Result.andThen_ok, hq, Sem.run_ite, Sem.run_pure]
    cases h0 : a == p <;> cases h1 : b == q <;> cases h2 : c == r <;> cases h3 : d == s <;> simp
  · simp at hf
theorem eqRB_iff (e g : R4) : eqRB e.a e.b e.c e.d g.a g.b g.c g.d = decide (e = g) := by
  rw [Bool.eq_iff_iff, decide_eq_true_eq]
  unfold eqRB
  simp only [Bool.and_eq_true, beq_iff_eq]
  exact ⟨fun h => R4_ext h.1 h.2.1 h.2.2.1 h.2.2.2, fun h => by subst h; exact ⟨rfl, rfl, rfl, rfl⟩⟩

theorem infoE : (Tryz.prog.info? 32).map (fun i => (i.zero, i.size, i.bytes)) = (Tryz.prog.info? 82).map (fun i => (i.zero, i.size, i.bytes)) := by kernel_rfl
theorem erec_own {w : World} {B g n cap : Nat} {l : List R4} (h : w.ownsRow B 32 4 (.slice (some ⟨g, 0, none⟩) n cap) n (recCells l)) : RecIs B w g l := by
  have hl := h.lt g rfl
  refine ⟨hl.1, hl.2, fun i r hr => ?_⟩
  obtain ⟨h0, h1, h2, h3⟩ := recCells_at l i r hr
  have c0 := h.cells (g := g) rfl _ _ h0
  have c1 := h.cells (g := g) rfl _ _ h1
  have c2 := h.cells (g := g) rfl _ _ h2
  have c3 := h.cells (g := g) rfl _ _ h3
  rw [addG] at c0 c1 c2 c3
  exact ⟨c0, c1, c2, c3⟩
theorem erec_next {W : World} {B : Nat} {v : Value} {n : Nat} {l : List R4} {r : R4} (hn : n = l.length) (h : W.ownsRow B 32 4 v (n + 1) (recCells l ++ r4cells r)) :
    ∃ g cap, v = .slice (some ⟨g, 0, none⟩) (l ++ [r]).length cap ∧ W.ownsRow B 32 4 (.slice (some ⟨g, 0, none⟩) (l ++ [r]).length cap) (l ++ [r]).length (recCells (l ++ [r])) := by
  subst hn
  have e : (l ++ [r]).length = l.length + 1 := by simp
  rw [e, recCells_snoc]
  rcases h.2 with ⟨_, h0⟩ | ⟨g, cap, cur, rfl, _⟩
  · omega
  · exact ⟨g, cap, rfl, h⟩
theorem RecIs.extE {B : Nat} {w w' : World} {h : Nat} {l : List R4} (hR : RecIs B w h l) (hb : Below w.heap.size w w') : RecIs B w' h l :=
  ⟨hR.1, Nat.lt_of_lt_of_le hR.2.1 hb.size, fun i r hr => by
    obtain ⟨c0, c1, c2, c3⟩ := hR.2.2 i r hr
    exact ⟨(hb.cell (p := ⟨h, i * 4, none⟩) hR.2.1).trans c0, (hb.cell (p := ⟨h, i * 4 + 1, none⟩) hR.2.1).trans c1, (hb.cell (p := ⟨h, i * 4 + 2, none⟩) hR.2.1).trans c2, (hb.cell (p := ⟨h, i * 4 + 3, none⟩) hR.2.1).trans c3⟩⟩

theorem erec_cells {B h : Nat} {w : World} {l : List R4} (hR : RecIs B w h l) : ∀ j u, (recCells l)[j]? = some u → w.cell? ((⟨h, 0, none⟩ : Addr).add j) = some u := fun j u hj => by
  have hjl : j < l.length * 4 := by have := (List.getElem?_eq_some_iff.1 hj).1; rwa [recCells_len] at this
  obtain ⟨r, hr⟩ : ∃ r, l[j / 4]? = some r := ⟨_, List.getElem?_eq_getElem (by omega)⟩
  obtain ⟨c0, c1, c2, c3⟩ := hR.2.2 (j / 4) r hr
  obtain ⟨r0, r1, r2, r3⟩ := recCells_at l (j / 4) r hr
  rw [addG]
  have e : j = j / 4 * 4 ∨ j = j / 4 * 4 + 1 ∨ j = j / 4 * 4 + 2 ∨ j = j / 4 * 4 + 3 := by omega
  rcases e with e | e | e | e
  · rw [e] at hj ⊢; rw [r0] at hj; cases hj; exact c0
  · rw [e] at hj ⊢; rw [r1] at hj; cases hj; exact c1
  · rw [e] at hj ⊢; rw [r2] at hj; cases hj; exact c2
  · rw [e] at hj ⊢; rw [r3] at hj; cases hj; exact c3
theorem erec_cellsT {B h i : Nat} {w : World} {l : List R4} (hR : RecIs B w h l) (hi : i ≤ l.length) : ∀ j u, (recCells (l.take i))[j]? = some u → w.cell? ((⟨h, 0, none⟩ : Addr).add j) = some u := fun j u hj => by
  refine erec_cells hR j u ?_
  have e : recCells l = recCells (l.take i) ++ recCells (l.drop i) := by unfold recCells; rw [← List.flatMap_append, List.take_append_drop]
  rw [e, List.getElem?_append_left (List.getElem?_eq_some_iff.1 hj).1]
  exact hj
theorem erec_cellsD {B h i : Nat} {w : World} {l : List R4} (hR : RecIs B w h l) (hi : i ≤ l.length) : ∀ j u, (recCells (l.drop i))[j]? = some u → w.cell? ((⟨h, i * 4, none⟩ : Addr).add j) = some u := fun j u hj => by
  have h1 := erec_cells hR (i * 4 + j) u (by
    have e : recCells l = recCells (l.take i) ++ recCells (l.drop i) := by unfold recCells; rw [← List.flatMap_append, List.take_append_drop]
    have el : (recCells (l.take i)).length = i * 4 := by rw [recCells_len, List.length_take]; omega
    rw [e, List.getElem?_append_right (by omega), el, Nat.add_sub_cancel_left]
    exact hj)
  rw [addG] at h1
  have e2 : (⟨h, i * 4, none⟩ : Addr).add j = ⟨h, i * 4 + j, none⟩ := by
    cases j <;> rfl
  rw [e2]
  exact h1
theorem erec_one (l : List R4) : ∀ u ∈ recCells l, u.oneCell' = true := fun u hu => by
  unfold recCells at hu
  obtain ⟨r, hr, hu⟩ := List.mem_flatMap.1 hu
  unfold r4cells at hu
  simp at hu
  rcases hu with rfl | rfl | rfl | rfl <;> rfl
theorem e1_news {w1 : World} (e : R4) : ∀ j u, (r4cells e)[j]? = some u → (w1.alloc (.cells #[.int .i64 e.a, .int .i64 e.b, .int .i64 e.c, .int .i64 e.d] 32)).cell? ((⟨w1.heap.size, 0, none⟩ : Addr).add j) = some u := by
  intro j u hj
  unfold r4cells at hj
  match j, hj with
  | 0, hj => simp at hj; subst hj; rw [addG]; simp [go_sem]
  | 1, hj => simp at hj; subst hj; rw [addG]; simp [go_sem]
  | 2, hj => simp at hj; subst hj; rw [addG]; simp [go_sem]
  | 3, hj => simp at hj; subst hj; rw [addG]; simp [go_sem]
  | (k + 4), hj => simp at hj
theorem eown_some {w : World} {B n : Nat} {v : Value} {l : List R4} (hn : n = l.length) (h : w.ownsRow B 32 4 v n (recCells l)) (hv : v ≠ .slice none 0 0) : ∃ h' c, v = .slice (some ⟨h', 0, none⟩) l.length c ∧ l.length ≤ c ∧ w.ownsRow B 32 4 (.slice (some ⟨h', 0, none⟩) l.length c) l.length (recCells l) := by
  subst hn
  rcases h.2 with ⟨rfl, _⟩ | ⟨g, cap, cur, rfl, _, _, h3, _⟩
  · exact absurd rfl hv
  · exact ⟨g, cap, rfl, h3, h⟩
theorem eown_n {w : World} {B n : Nat} {v : Value} {xs : List Value} (h : w.ownsRow B 32 4 v n xs) (hv : v ≠ .slice none 0 0) : ∃ h' c, v = .slice (some ⟨h', 0, none⟩) n c ∧ n ≤ c ∧ w.ownsRow B 32 4 (.slice (some ⟨h', 0, none⟩) n c) n xs := by
  rcases h.2 with ⟨rfl, _⟩ | ⟨g, cap, cur, rfl, _, _, h3, _⟩
  · exact absurd rfl hv
  · exact ⟨g, cap, rfl, h3, h⟩
theorem infoEd : (Tryz.prog.info? 32).map (fun i => (i.zero, i.size, i.bytes)) = some (some (.agg #[.int .i64 0, .int .i64 0, .int .i64 0, .int .i64 0]), 4, 32) := by kernel_rfl

set_option maxRecDepth 100000 in
set_option maxHeartbeats 4000000 in
theorem l06Put_any (h c : Nat) (L : List R4) (e : R4) (w : World) (hR : RecIs 0 w h L) (hl : L.length ≤ 100000) (hc : L.length ≤ c) (hs : L.Pairwise ltE) :
    Calls Tryz.prog 109 #[.slice (some ⟨h, 0, none⟩) L.length c, .agg #[.int .i64 e.a, .int .i64 e.b, .int .i64 e.c, .int .i64 e.d]] w fun r w' => (∃ L' h' c', r = .returned (.slice (some ⟨h', 0, none⟩) L'.length c') ∧ RecIs 0 w' h' L' ∧ L'.Pairwise ltE ∧ (∀ a, a ∈ L' ↔ a = e ∨ a ∈ L) ∧ L'.length ≤ L.length + 1 ∧ L'.length ≤ c') ∧ Below w.heap.size w w' := by
  have HR := Lib.hid hR
  have HS := Lib.hid hs
  have hlt := hR.2.1
  clear hR hs
  go_enter Tryz.func109, Tryz.ntmps109
  go_wp2_with fail
  go_loopw [5] (fun s5 wr => ∃ i : Nat, i ≤ L.length ∧ s5 = .int .i64 (i : Int) ∧ Hid (∀ j a, j < i → L[j]? = some a → ltE a e) ∧ Below w.heap.size w wr ∧ wr.cell? ⟨w.heap.size, 0, none⟩ = some (.int .i64 e.a) ∧ wr.cell? ⟨w.heap.size, 1, none⟩ = some (.int .i64 e.b) ∧ wr.cell? ⟨w.heap.size, 2, none⟩ = some (.int .i64 e.c) ∧ wr.cell? ⟨w.heap.size, 3, none⟩ = some (.int .i64 e.d)) (fun s5 _ => L.length - (intOf s5).toNat)
  case atStart => exact ⟨0, by omega, rfl, Lib.hid (fun j a h => absurd h (by omega)), by (repeat (first | (with_reducible exact Below.refl _ _) | (with_reducible refine Ext.drewN ?_ _) | (with_reducible refine Below.drew ?_) | (with_reducible refine Ext.alloc ?_ _) | (with_reducible refine Ext.setCell ?_ (by simp; try omega) _) | (with_reducible refine Ext.trans ?_ (by assumption)) | (with_reducible assumption) | exact Below.refl _ _)), by simp [go_sem], by simp [go_sem], by simp [go_sem], by simp [go_sem]⟩
  case round =>
    obtain ⟨i, hi, rfl, HJ, hW, b0, b1, b2, b3⟩ := hrel
    have hRw := HR.out.extE hW
    have hsz := hW.size
    by_cases hil : i < L.length
    · obtain ⟨a, ha⟩ : ∃ a, L[i]? = some a := ⟨_, List.getElem?_eq_getElem hil⟩
      obtain ⟨x0, x1, x2, x3⟩ := hRw.2.2 i a ha
      have q0 : (0 : Int) ≤ (i : Int) := by omega
      have q1 : (i : Int) < (L.length : Int) := by omega
      have HA := Lib.hid ha
      have HRW := Lib.hid hRw
      clear hRw ha
      have hlr : h < wr.heap.size := by omega
      have hbr : w.heap.size < wr.heap.size := World.block_lt_of_cell? wr ⟨w.heap.size, 0, none⟩ b0
      cases hlt' : decide (ltE a e) with
      | true =>
        have hle : ltE a e := of_decide_eq_true hlt'
        have HLE := Lib.hid hle
        clear hle
        have HLT := Lib.hid hlt'
        clear hlt'
        go_wp2_with fail
        go_region_held3 (fun w' => Below wr.heap.size wr w' ∧ w'.cell? ⟨h, i * 4, none⟩ = some (.int .i64 a.a) ∧ w'.cell? ⟨h, i * 4 + 1, none⟩ = some (.int .i64 a.b) ∧ w'.cell? ⟨h, i * 4 + 2, none⟩ = some (.int .i64 a.c) ∧ w'.cell? ⟨h, i * 4 + 3, none⟩ = some (.int .i64 a.d) ∧ w'.cell? ⟨w.heap.size, 0, none⟩ = some (.int .i64 e.a) ∧ w'.cell? ⟨w.heap.size, 1, none⟩ = some (.int .i64 e.b) ∧ w'.cell? ⟨w.heap.size, 2, none⟩ = some (.int .i64 e.c) ∧ w'.cell? ⟨w.heap.size, 3, none⟩ = some (.int .i64 e.d))
          (first | ((try dsimp only); go_split_ands; (repeat' (with_reducible refine And.intro ?_ ?_)) <;> first | ((repeat (with_reducible refine keepS ?_ (by simp; try omega) _)); (first | (with_reducible assumption) | (with_reducible exact keepC (by assumption) (by assumption)) | (with_reducible exact keepA (by assumption) _) | (with_reducible exact keepR (by assumption) (by omega) _))) | ((try simp only [World.size_alloc, World.size_setCell, World.size_drew]); omega) | (refine Mats.below hM ?_ hM.size; (repeat (first | (with_reducible exact Below.refl _ _) | (with_reducible refine Ext.drewN ?_ _) | (with_reducible refine Below.drew ?_) | (with_reducible refine Ext.alloc ?_ _) | (with_reducible refine Ext.setCell ?_ (by simp; try omega) _) | (with_reducible refine Ext.trans ?_ (by assumption)) | (with_reducible assumption) | exact Below.refl _ _)); done) | ((repeat (first | (with_reducible exact Below.refl _ _) | (with_reducible refine Ext.drewN ?_ _) | (with_reducible refine Below.drew ?_) | (with_reducible refine Ext.alloc ?_ _) | (with_reducible refine Ext.setCell ?_ (by simp; try omega) _) | (with_reducible refine Ext.trans ?_ (by assumption)) | (with_reducible assumption) | exact Below.refl _ _)); done) | (go_keep; done)))
          (first | (go_at_call 142; refine (l06Less_any a e _).mono ?_; rintro r v0 ⟨rfl, bv0⟩; rw [HLT.out]; obtain ⟨sv0, zv0, cv0, fv0⟩ := bcell bv0; (try simp only [World.size_alloc, World.size_setCell, World.size_drew] at sv0)))
        all_goals
          go_wp2_with fail
          go_roundw
          case rel => exact ⟨i + 1, by omega, by go_num, Lib.hid (fun j a' hj ha' => by
            by_cases e' : j = i
            · subst e'
              rw [HA.out] at ha'
              cases ha'
              exact HLE.out
            · exact HJ.out j a' (by omega) ha'), by (repeat (first | (with_reducible exact Below.refl _ _) | (with_reducible refine Ext.drewN ?_ _) | (with_reducible refine Below.drew ?_) | (with_reducible refine Ext.alloc ?_ _) | (with_reducible refine Ext.setCell ?_ (by simp; try omega) _) | (with_reducible refine Ext.trans ?_ (by assumption)) | (with_reducible assumption) | exact Below.refl _ _)), by first | assumption | (simp [*]; done), by first | assumption | (simp [*]; done), by first | assumption | (simp [*]; done), by first | assumption | (simp [*]; done)⟩
          case measure => simp [intOf]; omega
      | false =>
        have hne : ¬ ltE a e := of_decide_eq_false hlt'
        have HNE := Lib.hid hne
        clear hne
        have HLT := Lib.hid hlt'
        clear hlt'
        have hcmp := fun W : World => eqEc a.a a.b a.c a.d e.a e.b e.c e.d W
        rw [eqRB_iff] at hcmp
        obtain ⟨bq, hbq⟩ : ∃ bq, bq = decide (a = e) := ⟨_, rfl⟩
        rw [← hbq] at hcmp
        have HBQ := Lib.hid hbq
        clear hbq
        cases bq with
        | true =>
          go_wp2_with fail
          go_region_held3 (fun w' => Below wr.heap.size wr w' ∧ w'.cell? ⟨h, i * 4, none⟩ = some (.int .i64 a.a) ∧ w'.cell? ⟨h, i * 4 + 1, none⟩ = some (.int .i64 a.b) ∧ w'.cell? ⟨h, i * 4 + 2, none⟩ = some (.int .i64 a.c) ∧ w'.cell? ⟨h, i * 4 + 3, none⟩ = some (.int .i64 a.d) ∧ w'.cell? ⟨w.heap.size, 0, none⟩ = some (.int .i64 e.a) ∧ w'.cell? ⟨w.heap.size, 1, none⟩ = some (.int .i64 e.b) ∧ w'.cell? ⟨w.heap.size, 2, none⟩ = some (.int .i64 e.c) ∧ w'.cell? ⟨w.heap.size, 3, none⟩ = some (.int .i64 e.d))
            (first | ((try dsimp only); go_split_ands; (repeat' (with_reducible refine And.intro ?_ ?_)) <;> first | ((repeat (with_reducible refine keepS ?_ (by simp; try omega) _)); (first | (with_reducible assumption) | (with_reducible exact keepC (by assumption) (by assumption)) | (with_reducible exact keepA (by assumption) _) | (with_reducible exact keepR (by assumption) (by omega) _))) | ((try simp only [World.size_alloc, World.size_setCell, World.size_drew]); omega) | (refine Mats.below hM ?_ hM.size; (repeat (first | (with_reducible exact Below.refl _ _) | (with_reducible refine Ext.drewN ?_ _) | (with_reducible refine Below.drew ?_) | (with_reducible refine Ext.alloc ?_ _) | (with_reducible refine Ext.setCell ?_ (by simp; try omega) _) | (with_reducible refine Ext.trans ?_ (by assumption)) | (with_reducible assumption) | exact Below.refl _ _)); done) | ((repeat (first | (with_reducible exact Below.refl _ _) | (with_reducible refine Ext.drewN ?_ _) | (with_reducible refine Below.drew ?_) | (with_reducible refine Ext.alloc ?_ _) | (with_reducible refine Ext.setCell ?_ (by simp; try omega) _) | (with_reducible refine Ext.trans ?_ (by assumption)) | (with_reducible assumption) | exact Below.refl _ _)); done) | (go_keep; done)))
            (first | (go_at_call 142; refine (l06Less_any a e _).mono ?_; rintro r v0 ⟨rfl, bv0⟩; rw [HLT.out]; obtain ⟨sv0, zv0, cv0, fv0⟩ := bcell bv0; (try simp only [World.size_alloc, World.size_setCell, World.size_drew] at sv0)))
          all_goals
            clear x0 x1 x2 x3 b0 b1 b2 b3 bv0 sv0 zv0 cv0 fv0
            rename_i hHeld
            obtain ⟨E0, x0, x1, x2, x3, b0, b1, b2, b3⟩ := hHeld
            go_wp2_with fail
            go_region_held3 (fun w' => Below wr.heap.size wr w' ∧ w'.cell? ⟨h, i * 4, none⟩ = some (.int .i64 a.a) ∧ w'.cell? ⟨h, i * 4 + 1, none⟩ = some (.int .i64 a.b) ∧ w'.cell? ⟨h, i * 4 + 2, none⟩ = some (.int .i64 a.c) ∧ w'.cell? ⟨h, i * 4 + 3, none⟩ = some (.int .i64 a.d) ∧ w'.cell? ⟨w.heap.size, 0, none⟩ = some (.int .i64 e.a) ∧ w'.cell? ⟨w.heap.size, 1, none⟩ = some (.int .i64 e.b) ∧ w'.cell? ⟨w.heap.size, 2, none⟩ = some (.int .i64 e.c) ∧ w'.cell? ⟨w.heap.size, 3, none⟩ = some (.int .i64 e.d))
              (first | ((try dsimp only); go_split_ands; (repeat' (with_reducible refine And.intro ?_ ?_)) <;> first | ((repeat (with_reducible refine keepS ?_ (by simp; try omega) _)); (first | (with_reducible assumption) | (with_reducible exact keepC (by assumption) (by assumption)) | (with_reducible exact keepA (by assumption) _) | (with_reducible exact keepR (by assumption) (by omega) _))) | ((try simp only [World.size_alloc, World.size_setCell, World.size_drew]); omega) | (refine Mats.below hM ?_ hM.size; (repeat (first | (with_reducible exact Below.refl _ _) | (with_reducible refine Ext.drewN ?_ _) | (with_reducible refine Below.drew ?_) | (with_reducible refine Ext.alloc ?_ _) | (with_reducible refine Ext.setCell ?_ (by simp; try omega) _) | (with_reducible refine Ext.trans ?_ (by assumption)) | (with_reducible assumption) | exact Below.refl _ _)); done) | ((repeat (first | (with_reducible exact Below.refl _ _) | (with_reducible refine Ext.drewN ?_ _) | (with_reducible refine Below.drew ?_) | (with_reducible refine Ext.alloc ?_ _) | (with_reducible refine Ext.setCell ?_ (by simp; try omega) _) | (with_reducible refine Ext.trans ?_ (by assumption)) | (with_reducible assumption) | exact Below.refl _ _)); done) | (go_keep; done)))
              (fail)
            all_goals
              clear x0 x1 x2 x3 b0 b1 b2 b3 E0
              rename_i hHeld
              obtain ⟨E0, -, -, -, -, b0, b1, b2, b3⟩ := hHeld
              go_wp2_with fail
              go_ret
              have hea : a = e := of_decide_eq_true HBQ.out.symm
              exact ⟨⟨L, h, c, rfl, (HR.out.extE hW).extE E0, HS.out, fun x => ⟨fun hx => .inr hx, fun hx => hx.elim (fun ex => by rw [ex, ← hea]; exact List.mem_of_getElem? HA.out) id⟩, by omega, hc⟩, hW.trans (E0.mono hW.size)⟩
        | false =>
          go_wp2_with fail
          go_region_held3 (fun w' => Below wr.heap.size wr w' ∧ w'.cell? ⟨h, i * 4, none⟩ = some (.int .i64 a.a) ∧ w'.cell? ⟨h, i * 4 + 1, none⟩ = some (.int .i64 a.b) ∧ w'.cell? ⟨h, i * 4 + 2, none⟩ = some (.int .i64 a.c) ∧ w'.cell? ⟨h, i * 4 + 3, none⟩ = some (.int .i64 a.d) ∧ w'.cell? ⟨w.heap.size, 0, none⟩ = some (.int .i64 e.a) ∧ w'.cell? ⟨w.heap.size, 1, none⟩ = some (.int .i64 e.b) ∧ w'.cell? ⟨w.heap.size, 2, none⟩ = some (.int .i64 e.c) ∧ w'.cell? ⟨w.heap.size, 3, none⟩ = some (.int .i64 e.d))
            (first | ((try dsimp only); go_split_ands; (repeat' (with_reducible refine And.intro ?_ ?_)) <;> first | ((repeat (with_reducible refine keepS ?_ (by simp; try omega) _)); (first | (with_reducible assumption) | (with_reducible exact keepC (by assumption) (by assumption)) | (with_reducible exact keepA (by assumption) _) | (with_reducible exact keepR (by assumption) (by omega) _))) | ((try simp only [World.size_alloc, World.size_setCell, World.size_drew]); omega) | (refine Mats.below hM ?_ hM.size; (repeat (first | (with_reducible exact Below.refl _ _) | (with_reducible refine Ext.drewN ?_ _) | (with_reducible refine Below.drew ?_) | (with_reducible refine Ext.alloc ?_ _) | (with_reducible refine Ext.setCell ?_ (by simp; try omega) _) | (with_reducible refine Ext.trans ?_ (by assumption)) | (with_reducible assumption) | exact Below.refl _ _)); done) | ((repeat (first | (with_reducible exact Below.refl _ _) | (with_reducible refine Ext.drewN ?_ _) | (with_reducible refine Below.drew ?_) | (with_reducible refine Ext.alloc ?_ _) | (with_reducible refine Ext.setCell ?_ (by simp; try omega) _) | (with_reducible refine Ext.trans ?_ (by assumption)) | (with_reducible assumption) | exact Below.refl _ _)); done) | (go_keep; done)))
            (first | (go_at_call 142; refine (l06Less_any a e _).mono ?_; rintro r v0 ⟨rfl, bv0⟩; rw [HLT.out]; obtain ⟨sv0, zv0, cv0, fv0⟩ := bcell bv0; (try simp only [World.size_alloc, World.size_setCell, World.size_drew] at sv0)))
          all_goals
            clear x0 x1 x2 x3 b0 b1 b2 b3 bv0 sv0 zv0 cv0 fv0
            rename_i hHeld
            obtain ⟨E0, x0, x1, x2, x3, b0, b1, b2, b3⟩ := hHeld
            go_wp2_with fail
            go_region_held3 (fun w' => Below wr.heap.size wr w' ∧ w'.cell? ⟨h, i * 4, none⟩ = some (.int .i64 a.a) ∧ w'.cell? ⟨h, i * 4 + 1, none⟩ = some (.int .i64 a.b) ∧ w'.cell? ⟨h, i * 4 + 2, none⟩ = some (.int .i64 a.c) ∧ w'.cell? ⟨h, i * 4 + 3, none⟩ = some (.int .i64 a.d) ∧ w'.cell? ⟨w.heap.size, 0, none⟩ = some (.int .i64 e.a) ∧ w'.cell? ⟨w.heap.size, 1, none⟩ = some (.int .i64 e.b) ∧ w'.cell? ⟨w.heap.size, 2, none⟩ = some (.int .i64 e.c) ∧ w'.cell? ⟨w.heap.size, 3, none⟩ = some (.int .i64 e.d))
              (first | ((try dsimp only); go_split_ands; (repeat' (with_reducible refine And.intro ?_ ?_)) <;> first | ((repeat (with_reducible refine keepS ?_ (by simp; try omega) _)); (first | (with_reducible assumption) | (with_reducible exact keepC (by assumption) (by assumption)) | (with_reducible exact keepA (by assumption) _) | (with_reducible exact keepR (by assumption) (by omega) _))) | ((try simp only [World.size_alloc, World.size_setCell, World.size_drew]); omega) | (refine Mats.below hM ?_ hM.size; (repeat (first | (with_reducible exact Below.refl _ _) | (with_reducible refine Ext.drewN ?_ _) | (with_reducible refine Below.drew ?_) | (with_reducible refine Ext.alloc ?_ _) | (with_reducible refine Ext.setCell ?_ (by simp; try omega) _) | (with_reducible refine Ext.trans ?_ (by assumption)) | (with_reducible assumption) | exact Below.refl _ _)); done) | ((repeat (first | (with_reducible exact Below.refl _ _) | (with_reducible refine Ext.drewN ?_ _) | (with_reducible refine Below.drew ?_) | (with_reducible refine Ext.alloc ?_ _) | (with_reducible refine Ext.setCell ?_ (by simp; try omega) _) | (with_reducible refine Ext.trans ?_ (by assumption)) | (with_reducible assumption) | exact Below.refl _ _)); done) | (go_keep; done)))
              (fail)
            all_goals
              clear x0 x1 x2 x3 b0 b1 b2 b3 E0
              rename_i hHeld
              obtain ⟨E0, -, -, -, -, b0, b1, b2, b3⟩ := hHeld
              rename World => wy
              obtain ⟨wx, hwx⟩ : ∃ wx, wx = wy.drew := ⟨_, rfl⟩
              replace E0 : Below wr.heap.size wr wx := by rw [hwx]; first | exact E0 | exact E0.drew
              replace b0 : wx.cell? ⟨w.heap.size, 0, none⟩ = some (.int .i64 e.a) := by rw [hwx]; exact b0
              replace b1 : wx.cell? ⟨w.heap.size, 1, none⟩ = some (.int .i64 e.b) := by rw [hwx]; exact b1
              replace b2 : wx.cell? ⟨w.heap.size, 2, none⟩ = some (.int .i64 e.c) := by rw [hwx]; exact b2
              replace b3 : wx.cell? ⟨w.heap.size, 3, none⟩ = some (.int .i64 e.d) := by rw [hwx]; exact b3
              rw [← hwx]
              clear hwx
              have hbr0 : w.heap.size < wx.heap.size := World.block_lt_of_cell? wx ⟨w.heap.size, 0, none⟩ b0
              have hlr0 := E0.size
              have HRX := Lib.hid (RecIs.extE HRW.out E0)
              have B0 := Lib.hid b0
              have B1 := Lib.hid b1
              have B2 := Lib.hid b2
              have B3 := Lib.hid b3
              obtain ⟨i0, hin, hz0, hz1, hz2⟩ := info_parts infoEd
              have HPUT := Lib.hid (put_sorted (lt := ltE) (fun h1 h2 => ltE_trans h1 h2) (fun h1 h2 => ltE_tot h1 h2) HS.out e i (by omega) HJ.out (fun x hx => by rw [HA.out] at hx; cases hx; exact ⟨HNE.out, of_decide_eq_false HBQ.out.symm⟩))
              obtain ⟨wz, hwz⟩ : ∃ wz, wz = wx.alloc (.cells #[] 32) := ⟨_, rfl⟩
              have bz : Below wx.heap.size wx wz := by rw [hwz]; (repeat (first | (with_reducible exact Below.refl _ _) | (with_reducible refine Ext.drewN ?_ _) | (with_reducible refine Below.drew ?_) | (with_reducible refine Ext.alloc ?_ _) | (with_reducible refine Ext.setCell ?_ (by simp; try omega) _) | (with_reducible refine Ext.trans ?_ (by assumption)) | (with_reducible assumption) | exact Below.refl _ _))
              have sz : wz.heap.size = wx.heap.size + 1 := by rw [hwz]; simp
              have OZ : Hid (wz.ownsRow wx.heap.size 32 4 (.slice (some ⟨wx.heap.size, 0, none⟩) 0 0) 0 []) := Lib.hid (by
                have hm := World.ownsRow_made (base := wx.heap.size) (size := 4) (e := 32) wx #[] 0 (by omega) (by unfold maxLen; decide) rfl
                rw [hwz]
                exact hm)
              have HRz := Lib.hid (RecIs.extE HRX.out bz)
              have tl : (L.take i).length = i := by rw [List.length_take]; omega
              have dl : (L.drop i).length = L.length - i := List.length_drop
              have q3 : (0 : Int) ≤ (i : Int) := by omega
              have q4 : (i : Int) ≤ (c : Int) := by omega
              have q5 : (i : Int) ≤ (L.length : Int) := by omega
              have TL := Lib.hid tl
              have DL := Lib.hid dl
              clear tl dl
              have hb0 := keepC bz b0
              have hb1 := keepC bz b1
              have hb2 := keepC bz b2
              have hb3 := keepC bz b3
              clear b0 b1 b2 b3
              clear hb0 hb1 hb2 hb3
              by_cases hic : i = c
              · exact absurd hic (by omega)
              · have hic2 : i < c := by omega
                go_wp2_with (first | (at_builtin; have O2' := O2; clear O2'; refine wpList_append_own _ rfl _ _ 27 rfl wx.heap.size 32 i0 (.agg #[.int .i64 0, .int .i64 0, .int .i64 0, .int .i64 0]) 4 32 Tryz.underlying27 hin hz0 hz1 hz2 rfl (by decide) _ _ _ rfl O2.out ⟨h, i * 4, none⟩ (L.length - i) (c - i) (recCells (L.drop i)) rfl (by rw [recCells_len, DL.out]) (erec_cellsD HR2.out (by omega)) (erec_one _) (by have := L2.out; unfold maxLen; omega) (by have := L2.out; omega) (by omega) ?_; intro v3 w3 hown3 hgrow3 hnil3) | (at_builtin; have O1' := O1; clear O1'; refine wpList_append_own _ rfl _ _ 27 rfl wx.heap.size 32 i0 (.agg #[.int .i64 0, .int .i64 0, .int .i64 0, .int .i64 0]) 4 32 Tryz.underlying27 hin hz0 hz1 hz2 rfl (by decide) _ _ _ rfl (O1.out.alloc _) ⟨w1.heap.size, 0, none⟩ 1 1 (r4cells e) rfl rfl (e1_news e) (fun u hu => erec_one [e] u (by simpa [recCells] using hu)) (by have := TL.out; unfold maxLen; omega) (by have := TL.out; omega) (by (try simp only [World.size_alloc]); omega) ?_; intro v2 w2 hown2 hgrow2 hnil2; have hnn2 : v2 ≠ .slice none 0 0 := (fun e => by have := (hnil2.1 e).2; omega); rw [← recCells_snoc] at hown2; obtain ⟨h2, c2, rfl, hc2, hown2'⟩ := eown_n hown2 hnn2; have g2 : Below wx.heap.size wx w2 := (g1.alloc g1.size _).grown hgrow2 (by have := g1.size; simp; omega) (fun j hj => by have := (O1.out.lt j hj).1; omega); have O2 := Lib.hid hown2'; clear hown2 hown2' hgrow2 hnil2 hnn2; have HR2 := Lib.hid (RecIs.extE HRX.out g2); have L2 : Hid ((L.take i ++ [e]).length = i + 1) := Lib.hid (by rw [List.length_append, TL.out]; rfl); have g2s := g2.size) | (at_builtin; rw [← hwz]; refine wpList_append_own _ rfl _ _ 27 rfl wx.heap.size 32 i0 (.agg #[.int .i64 0, .int .i64 0, .int .i64 0, .int .i64 0]) 4 32 Tryz.underlying27 hin hz0 hz1 hz2 rfl (by decide) _ _ _ rfl OZ.out ⟨h, 0, none⟩ i _ (recCells (L.take i)) rfl (by rw [recCells_len, TL.out]) (erec_cellsT HRz.out (by omega)) (erec_one _) (by unfold maxLen; omega) (by omega) (by omega) ?_; intro v1 w1 hown1 hgrow1 hnil1; have hnn : v1 ≠ .slice none 0 0 := (fun e => by have := (hnil1.1 e).1; cases this); rw [Nat.zero_add, List.nil_append] at hown1; obtain ⟨h1, c1, rfl, hc1, hown1'⟩ := eown_n hown1 hnn; have g1 : Below wx.heap.size wx w1 := bz.grown hgrow1 bz.size (fun j hj => by have := (OZ.out.lt j hj).1; omega); have O1 := Lib.hid hown1'; clear hown1 hown1' hnn hnil1; have d0 := (g1.cell (p := ⟨w.heap.size, 0, none⟩) hbr0).trans B0.out; have d1 := (g1.cell (p := ⟨w.heap.size, 1, none⟩) hbr0).trans B1.out; have d2 := (g1.cell (p := ⟨w.heap.size, 2, none⟩) hbr0).trans B2.out; have d3 := (g1.cell (p := ⟨w.heap.size, 3, none⟩) hbr0).trans B3.out; have hl1 : wx.heap.size ≤ w1.heap.size := g1.size; clear hgrow1))
                have hnn3 : v3 ≠ .slice none 0 0 := fun e => by have := (hnil3.1 e).1; cases this
                have hrc : recCells (L.take i ++ [e]) ++ recCells (L.drop i) = recCells (L.take i ++ e :: L.drop i) := by unfold recCells; rw [← List.flatMap_append]; simp
                have hl3 : (L.take i ++ e :: L.drop i).length = L.length + 1 := by rw [List.length_append, List.length_cons, TL.out, DL.out]; omega
                rw [hrc, show i + 1 + (L.length - i) = (L.take i ++ e :: L.drop i).length by omega] at hown3
                obtain ⟨h3, c3, rfl, hc3, hown3'⟩ := eown_n hown3 hnn3
                have g3 : Below wx.heap.size wx w3 := g2.grown hgrow3 g2.size (fun j hj => by have := (O2.out.lt j hj).1; omega)
                have HO := Lib.hid (erec_own hown3')
                clear hown3 hown3' hgrow3 hnil3 hnn3
                have HL3 := Lib.hid hl3
                clear hl3 hrc
                go_wp2_with fail
                go_ret
                refine ⟨⟨L.take i ++ e :: L.drop i, h3, c3, rfl, ⟨Nat.zero_le _, HO.out.2⟩, HPUT.out.1, HPUT.out.2, by have := HL3.out; omega, hc3⟩, ?_⟩
                exact hW.trans ((Ext.trans E0 g3).mono hW.size)
    · have hiL : i = L.length := by omega
      have q1 : ¬ (i : Int) < (L.length : Int) := by omega
      have q2 : ¬ i < L.length := by omega
      have HIL := Lib.hid hiL
      clear hiL
      have q0 : (0 : Int) ≤ (i : Int) := by omega
      go_wp2_with fail
      go_region
      go_wp2_with fail
      go_region
      obtain ⟨wx, hwx⟩ : ∃ wx, wx = wr.drew.drew := ⟨_, rfl⟩
      have E0 : Below wr.heap.size wr wx := by rw [hwx]; exact (Below.refl _ _).drew.drew
      replace b0 : wx.cell? ⟨w.heap.size, 0, none⟩ = some (.int .i64 e.a) := by rw [hwx]; exact b0
      replace b1 : wx.cell? ⟨w.heap.size, 1, none⟩ = some (.int .i64 e.b) := by rw [hwx]; exact b1
      replace b2 : wx.cell? ⟨w.heap.size, 2, none⟩ = some (.int .i64 e.c) := by rw [hwx]; exact b2
      replace b3 : wx.cell? ⟨w.heap.size, 3, none⟩ = some (.int .i64 e.d) := by rw [hwx]; exact b3
      rw [← hwx]
      clear hwx
      have hbr0 : w.heap.size < wx.heap.size := World.block_lt_of_cell? wx ⟨w.heap.size, 0, none⟩ b0
      have hlr0 := E0.size
      have HRX := Lib.hid (RecIs.extE hRw E0)
      have B0 := Lib.hid b0
      have B1 := Lib.hid b1
      have B2 := Lib.hid b2
      have B3 := Lib.hid b3
      obtain ⟨i0, hin, hz0, hz1, hz2⟩ := info_parts infoEd
      have HPUT := Lib.hid (put_sorted (lt := ltE) (fun h1 h2 => ltE_trans h1 h2) (fun h1 h2 => ltE_tot h1 h2) HS.out e i (by omega) HJ.out (fun x hx => by rw [List.getElem?_eq_none (by have := HIL.out; omega)] at hx; cases hx))
      obtain ⟨wz, hwz⟩ : ∃ wz, wz = wx.alloc (.cells #[] 32) := ⟨_, rfl⟩
      have bz : Below wx.heap.size wx wz := by rw [hwz]; (repeat (first | (with_reducible exact Below.refl _ _) | (with_reducible refine Ext.drewN ?_ _) | (with_reducible refine Below.drew ?_) | (with_reducible refine Ext.alloc ?_ _) | (with_reducible refine Ext.setCell ?_ (by simp; try omega) _) | (with_reducible refine Ext.trans ?_ (by assumption)) | (with_reducible assumption) | exact Below.refl _ _))
      have sz : wz.heap.size = wx.heap.size + 1 := by rw [hwz]; simp
      have OZ : Hid (wz.ownsRow wx.heap.size 32 4 (.slice (some ⟨wx.heap.size, 0, none⟩) 0 0) 0 []) := Lib.hid (by
        have hm := World.ownsRow_made (base := wx.heap.size) (size := 4) (e := 32) wx #[] 0 (by omega) (by unfold maxLen; decide) rfl
        rw [hwz]
        exact hm)
      have HRz := Lib.hid (RecIs.extE HRX.out bz)
      have tl : (L.take i).length = i := by rw [List.length_take]; omega
      have dl : (L.drop i).length = L.length - i := List.length_drop
      have q3 : (0 : Int) ≤ (i : Int) := by omega
      have q4 : (i : Int) ≤ (c : Int) := by omega
      have q5 : (i : Int) ≤ (L.length : Int) := by omega
      have TL := Lib.hid tl
      have DL := Lib.hid dl
      clear tl dl
      have hb0 := keepC bz b0
      have hb1 := keepC bz b1
      have hb2 := keepC bz b2
      have hb3 := keepC bz b3
      clear b0 b1 b2 b3
      clear hb0 hb1 hb2 hb3
      by_cases hic : i = c
      · have hdn : L.drop i = [] := List.drop_eq_nil_of_le (by omega)
        have HDN := Lib.hid hdn
        clear hdn
        have hiL2 : i = L.length := by omega
        subst hic
        rw [← hiL2]
        have HIL2 := Lib.hid hiL2
        clear hiL2
        go_wp2_with (first | (at_builtin; have O2' := O2; clear O2'; refine wpList_append_own _ rfl _ _ 27 rfl wx.heap.size 32 i0 (.agg #[.int .i64 0, .int .i64 0, .int .i64 0, .int .i64 0]) 4 32 Tryz.underlying27 hin hz0 hz1 hz2 rfl (by decide) _ _ _ rfl O2.out ⟨h, 0, none⟩ 0 0 [] ?x0 rfl (fun j u hj => by simp at hj) (fun u hu => by simp at hu) (by have := L2.out; unfold maxLen; omega) (by have := L2.out; omega) (by omega) ?_; rotate_left; intro v3 w3 hown3 hgrow3 hnil3) | (at_builtin; have O1' := O1; clear O1'; refine wpList_append_own _ rfl _ _ 27 rfl wx.heap.size 32 i0 (.agg #[.int .i64 0, .int .i64 0, .int .i64 0, .int .i64 0]) 4 32 Tryz.underlying27 hin hz0 hz1 hz2 rfl (by decide) _ _ _ rfl (O1.out.alloc _) ⟨w1.heap.size, 0, none⟩ 1 1 (r4cells e) rfl rfl (e1_news e) (fun u hu => erec_one [e] u (by simpa [recCells] using hu)) (by have := TL.out; unfold maxLen; omega) (by have := TL.out; omega) (by (try simp only [World.size_alloc]); omega) ?_; intro v2 w2 hown2 hgrow2 hnil2; have hnn2 : v2 ≠ .slice none 0 0 := (fun e => by have := (hnil2.1 e).2; omega); rw [← recCells_snoc] at hown2; obtain ⟨h2, c2, rfl, hc2, hown2'⟩ := eown_n hown2 hnn2; have g2 : Below wx.heap.size wx w2 := (g1.alloc g1.size _).grown hgrow2 (by have := g1.size; simp; omega) (fun j hj => by have := (O1.out.lt j hj).1; omega); have O2 := Lib.hid hown2'; clear hown2 hown2' hgrow2 hnil2 hnn2; have HR2 := Lib.hid (RecIs.extE HRX.out g2); have L2 : Hid ((L.take i ++ [e]).length = i + 1) := Lib.hid (by rw [List.length_append, TL.out]; rfl); have g2s := g2.size) | (at_builtin; rw [← hwz]; refine wpList_append_own _ rfl _ _ 27 rfl wx.heap.size 32 i0 (.agg #[.int .i64 0, .int .i64 0, .int .i64 0, .int .i64 0]) 4 32 Tryz.underlying27 hin hz0 hz1 hz2 rfl (by decide) _ _ _ rfl OZ.out ⟨h, 0, none⟩ i _ (recCells (L.take i)) rfl (by rw [recCells_len, TL.out]) (erec_cellsT HRz.out (by omega)) (erec_one _) (by unfold maxLen; omega) (by omega) (by omega) ?_; intro v1 w1 hown1 hgrow1 hnil1; have hnn : v1 ≠ .slice none 0 0 := (fun e => by have := (hnil1.1 e).1; cases this); rw [Nat.zero_add, List.nil_append] at hown1; obtain ⟨h1, c1, rfl, hc1, hown1'⟩ := eown_n hown1 hnn; have g1 : Below wx.heap.size wx w1 := bz.grown hgrow1 bz.size (fun j hj => by have := (OZ.out.lt j hj).1; omega); have O1 := Lib.hid hown1'; clear hown1 hown1' hnn hnil1; have d0 := (g1.cell (p := ⟨w.heap.size, 0, none⟩) hbr0).trans B0.out; have d1 := (g1.cell (p := ⟨w.heap.size, 1, none⟩) hbr0).trans B1.out; have d2 := (g1.cell (p := ⟨w.heap.size, 2, none⟩) hbr0).trans B2.out; have d3 := (g1.cell (p := ⟨w.heap.size, 3, none⟩) hbr0).trans B3.out; have hl1 : wx.heap.size ≤ w1.heap.size := g1.size; clear hgrow1))
        case x0 => first | rfl | (simp [*]; done) | (dsimp only; trace_state)
        have hnn3 : v3 ≠ .slice none 0 0 := fun e => by have := (hnil3.1 e).1; cases this
        rw [Nat.add_zero, List.append_nil] at hown3
        have hL2 := L2.out
        rw [← hL2] at hown3
        obtain ⟨h3, c3, rfl, hc3, hown3'⟩ := eown_n hown3 hnn3
        clear hL2
        have g3 : Below wx.heap.size wx w3 := g2.grown hgrow3 g2.size (fun j hj => by have := (O2.out.lt j hj).1; omega)
        have HO := Lib.hid (erec_own hown3')
        clear hown3 hown3' hgrow3 hnil3 hnn3
        have hLL : L.take i ++ e :: L.drop i = L.take i ++ [e] := by rw [HDN.out]
        have HLL := Lib.hid hLL
        clear hLL
        go_wp2_with fail
        go_ret
        refine ⟨⟨L.take i ++ [e], h3, c3, rfl, ⟨Nat.zero_le _, HO.out.2⟩, ?_, ?_, by have := L2.out; omega, hc3⟩, ?_⟩
        · rw [← HLL.out]; exact HPUT.out.1
        · rw [← HLL.out]; exact HPUT.out.2
        · exact hW.trans ((Ext.trans E0 g3).mono hW.size)
      · have hic2 : i < c := by omega
        go_wp2_with (first | (at_builtin; have O2' := O2; clear O2'; refine wpList_append_own _ rfl _ _ 27 rfl wx.heap.size 32 i0 (.agg #[.int .i64 0, .int .i64 0, .int .i64 0, .int .i64 0]) 4 32 Tryz.underlying27 hin hz0 hz1 hz2 rfl (by decide) _ _ _ rfl O2.out ⟨h, i * 4, none⟩ (L.length - i) (c - i) (recCells (L.drop i)) rfl (by rw [recCells_len, DL.out]) (erec_cellsD HR2.out (by omega)) (erec_one _) (by have := L2.out; unfold maxLen; omega) (by have := L2.out; omega) (by omega) ?_; intro v3 w3 hown3 hgrow3 hnil3) | (at_builtin; have O1' := O1; clear O1'; refine wpList_append_own _ rfl _ _ 27 rfl wx.heap.size 32 i0 (.agg #[.int .i64 0, .int .i64 0, .int .i64 0, .int .i64 0]) 4 32 Tryz.underlying27 hin hz0 hz1 hz2 rfl (by decide) _ _ _ rfl (O1.out.alloc _) ⟨w1.heap.size, 0, none⟩ 1 1 (r4cells e) rfl rfl (e1_news e) (fun u hu => erec_one [e] u (by simpa [recCells] using hu)) (by have := TL.out; unfold maxLen; omega) (by have := TL.out; omega) (by (try simp only [World.size_alloc]); omega) ?_; intro v2 w2 hown2 hgrow2 hnil2; have hnn2 : v2 ≠ .slice none 0 0 := (fun e => by have := (hnil2.1 e).2; omega); rw [← recCells_snoc] at hown2; obtain ⟨h2, c2, rfl, hc2, hown2'⟩ := eown_n hown2 hnn2; have g2 : Below wx.heap.size wx w2 := (g1.alloc g1.size _).grown hgrow2 (by have := g1.size; simp; omega) (fun j hj => by have := (O1.out.lt j hj).1; omega); have O2 := Lib.hid hown2'; clear hown2 hown2' hgrow2 hnil2 hnn2; have HR2 := Lib.hid (RecIs.extE HRX.out g2); have L2 : Hid ((L.take i ++ [e]).length = i + 1) := Lib.hid (by rw [List.length_append, TL.out]; rfl); have g2s := g2.size) | (at_builtin; rw [← hwz]; refine wpList_append_own _ rfl _ _ 27 rfl wx.heap.size 32 i0 (.agg #[.int .i64 0, .int .i64 0, .int .i64 0, .int .i64 0]) 4 32 Tryz.underlying27 hin hz0 hz1 hz2 rfl (by decide) _ _ _ rfl OZ.out ⟨h, 0, none⟩ i _ (recCells (L.take i)) rfl (by rw [recCells_len, TL.out]) (erec_cellsT HRz.out (by omega)) (erec_one _) (by unfold maxLen; omega) (by omega) (by omega) ?_; intro v1 w1 hown1 hgrow1 hnil1; have hnn : v1 ≠ .slice none 0 0 := (fun e => by have := (hnil1.1 e).1; cases this); rw [Nat.zero_add, List.nil_append] at hown1; obtain ⟨h1, c1, rfl, hc1, hown1'⟩ := eown_n hown1 hnn; have g1 : Below wx.heap.size wx w1 := bz.grown hgrow1 bz.size (fun j hj => by have := (OZ.out.lt j hj).1; omega); have O1 := Lib.hid hown1'; clear hown1 hown1' hnn hnil1; have d0 := (g1.cell (p := ⟨w.heap.size, 0, none⟩) hbr0).trans B0.out; have d1 := (g1.cell (p := ⟨w.heap.size, 1, none⟩) hbr0).trans B1.out; have d2 := (g1.cell (p := ⟨w.heap.size, 2, none⟩) hbr0).trans B2.out; have d3 := (g1.cell (p := ⟨w.heap.size, 3, none⟩) hbr0).trans B3.out; have hl1 : wx.heap.size ≤ w1.heap.size := g1.size; clear hgrow1))
        have hnn3 : v3 ≠ .slice none 0 0 := fun e => by have := (hnil3.1 e).1; cases this
        have hrc : recCells (L.take i ++ [e]) ++ recCells (L.drop i) = recCells (L.take i ++ e :: L.drop i) := by unfold recCells; rw [← List.flatMap_append]; simp
        have hl3 : (L.take i ++ e :: L.drop i).length = L.length + 1 := by rw [List.length_append, List.length_cons, TL.out, DL.out]; omega
        rw [hrc, show i + 1 + (L.length - i) = (L.take i ++ e :: L.drop i).length by omega] at hown3
        obtain ⟨h3, c3, rfl, hc3, hown3'⟩ := eown_n hown3 hnn3
        have g3 : Below wx.heap.size wx w3 := g2.grown hgrow3 g2.size (fun j hj => by have := (O2.out.lt j hj).1; omega)
        have HO := Lib.hid (erec_own hown3')
        clear hown3 hown3' hgrow3 hnil3 hnn3
        have HL3 := Lib.hid hl3
        clear hl3 hrc
        go_wp2_with fail
        go_ret
        refine ⟨⟨L.take i ++ e :: L.drop i, h3, c3, rfl, ⟨Nat.zero_le _, HO.out.2⟩, HPUT.out.1, HPUT.out.2, by have := HL3.out; omega, hc3⟩, ?_⟩
        exact hW.trans ((Ext.trans E0 g3).mono hW.size)
end Go.Proofs.YtmabdemdapnmkaaGreatDoor
