/- The program's search for a root, with its shortened ways. Conditions: the trees lie in memory. -/
import Derived.Test.YtepfnnhmplaocaaDoorCpG
import Derived.Test.YtepfnnhmplaocaaDoorQD
import Derived.LaidEqlPtr
import Derived.Lib.Builder
namespace Go.Proofs.YtepfnnhmplaocaaDoor
open Go.RowKit
set_option linter.unusedVariables false
set_option linter.unusedSimpArgs false
attribute [local go_sem ↓] Go.wp_at_zero Go.wp_at_succ

theorem infoTN : (Tryd.prog.info? 113).map (fun i => (i.zero, i.size, i.bytes)) = some (some (.agg #[.pointer none, .slice none 0 0]), 2, 32) := by kernel_rfl
theorem neq_same (w : World) (a : Addr) : (binOp .neq 111 (.pointer (some a)) (.pointer (some a))).run Tryd.prog w = .ok (.bool false) w := by
  obtain ⟨j, hj, _, _, _⟩ := info_parts infoTN
  exact Lib.run_neq_ptr_same w a Tryd.underlying111 hj
theorem neq_other (w : World) {a b : Addr} {ca cb : Array Value} {ta tb : TypeId} (hne : a ≠ b) (ha : w.heap[a.block]? = some (.cells ca ta (0, 0))) (hb : w.heap[b.block]? = some (.cells cb tb (0, 0))) :
    (binOp .neq 111 (.pointer (some a)) (.pointer (some b))).run Tryd.prog w = .ok (.bool true) w := by
  obtain ⟨j, hj, _, hsz, _⟩ := info_parts infoTN
  have h : ∀ d : Nat, (Op.equalIn (d + 1) 111 (.pointer (some a)) (.pointer (some b))).run Tryd.prog w = .ok false w := fun d => by
    simp [Op.equalIn, run_underlying Tryd.underlying111, sizeOf, typeInfo, hj, show j.size ≠ 0 by omega, run_sameAddr_other w hne ha hb]
  simp only [binOp]
  simp [Op.equal, Op.maxDepth, h 9999]
/-- The nodes of the trees lie at the blocks N, from B on, with parents p and no pieces. -/
def FAt (B : Nat) (w : World) (N : Nat → Nat) (n : Nat) (p : Nat → Nat) : Prop :=
  ∀ i, i < n → (B ≤ N i ∧ N i < w.heap.size) ∧ w.cell? ⟨N i, 0, none⟩ = some (.pointer (some ⟨N (p i), 0, none⟩)) ∧ w.cell? ⟨N i, 1, none⟩ = some (.slice none 0 0) ∧ w.frozen? ⟨N i, 0, none⟩ = false ∧ w.frozen? ⟨N i, 1, none⟩ = false ∧ ∃ cur, w.heap[N i]? = some (.cells cur 113 (0, 0))
/-- The blocks of the nodes. -/
def NX (N : Nat → Nat) (n : Nat) (b : Nat) : Prop := ∃ i, i < n ∧ b = N i
def InjN (N : Nat → Nat) (n : Nat) : Prop := ∀ i j, i < n → j < n → N i = N j → i = j
theorem FAt.below {B : Nat} {w w' : World} {N : Nat → Nat} {n : Nat} {p : Nat → Nat} (h : FAt B w N n p) (hb : Below w.heap.size w w') : FAt B w' N n p := fun i hi => by
  obtain ⟨⟨h1, h2⟩, h3, h4, h5, h6, cur, h7⟩ := h i hi
  exact ⟨⟨h1, Nat.lt_of_lt_of_le h2 hb.size⟩, keepC hb h3, keepC hb h4, (hb.frozen (p := ⟨N i, 0, none⟩) h2).trans h5, (hb.frozen (p := ⟨N i, 1, none⟩) h2).trans h6, cur, (hb.block _ h2).trans h7⟩
theorem cells_set {w : World} {g k : Nat} {cur : Array Value} {t : TypeId} (h : w.heap[g]? = some (.cells cur t (0, 0))) (a : Addr) (u : Value) : ∃ cur', (w.setCell a u).heap[g]? = some (.cells cur' t (0, 0)) := by
  by_cases e : g = a.block
  · subst e
    simp only [World.setCell, Array.getElem?_modify]
    simp [h]
  · exact ⟨cur, (Below.heap_setCell w a u g e).trans h⟩
theorem FAt.set {B : Nat} {w : World} {N : Nat → Nat} {n : Nat} {p : Nat → Nat} (h : FAt B w N n p) (hN : InjN N n) {i v : Nat} (hi : i < n) : FAt B (w.setCell ⟨N i, 0, none⟩ (.pointer (some ⟨N v, 0, none⟩))) N n (updF p i v) := fun j hj => by
  obtain ⟨h1, h3, h4, h5, h6, cur, h7⟩ := h j hj
  refine ⟨by simpa using h1, ?_, ?_, by simpa using h5, by simpa using h6, cells_set (k := 0) h7 _ _⟩
  · by_cases e : j = i
    · subst e
      rw [updF_same]
      exact World.cell?_setCell_same _ _ _ h3
    · rw [updF_other p e, World.cell?_setCell_other _ _ _ _ (by simp; exact fun k => absurd (hN j i hj hi k.symm) e)]
      exact h3
  · rw [World.cell?_setCell_other _ _ _ _ (by simp)]
    exact h4

set_option maxHeartbeats 4000000 in
set_option maxRecDepth 100000 in
theorem root_any (B Bx n : Nat) (N K d : Nat → Nat) (hN : InjN N n) (hBx : Bx < B) : ∀ (m i : Nat) (p : Nat → Nat) (w : World), d i < m → i < n → FK n p K d → FAt B w N n p → w.cell? ⟨Bx, 0, none⟩ = some (.func (.func 135) #[] #[.pointer (some ⟨Bx, 0, none⟩)]) →
    Calls Tryd.prog 135 #[.pointer (some ⟨N i, 0, none⟩), .pointer (some ⟨Bx, 0, none⟩)] w fun e w' => e = .returned (.pointer (some ⟨N (K i), 0, none⟩)) ∧ (∃ p', FK n p' K d ∧ FAt B w' N n p' ∧ ∀ j, j < n → d i < d j → p' j = p j) ∧ Kept (NX N n) w w' := by
  have hent := enters_of Tryd.func135 (by kernel_rfl) rfl
  intro m
  induction m with
  | zero => intro i p w hd; omega
  | succ m ih =>
    intro i p w hd hi hK hA hbox
    obtain ⟨⟨h1, h2⟩, h3, h4, h5, h6, cur, h7⟩ := hA i hi
    have HA := Lib.hid hA
    have HK := Lib.hid hK
    by_cases hp : p i = i
    · have hk := hK.fix i hi hp
      have hcmp := neq_same w ⟨N i, 0, none⟩
      rw [hp] at h3
      rw [hk]
      clear hA hK ih hp hk h7
      go_enter Tryd.func135, Tryd.ntmps135
      go_wp2_with fail
      go_ret
      exact ⟨rfl, ⟨p, HK.out, HA.out, fun _ _ _ => rfl⟩, Kept.refl _ _⟩
    · have hne : ¬ N (p i) = N i := fun e => hp (hN _ _ (hK.p_lt i hi) hi e)
      have hd' := hK.dp i hi hp
      have hKp := hK.Kp i hi
      obtain ⟨_, _, _, _, _, cur', h8⟩ := hA (p i) (hK.p_lt i hi)
      have hcmp := neq_other w (a := ⟨N (p i), 0, none⟩) (b := ⟨N i, 0, none⟩) (by simp [hne]) h8 h7
      have HD := Lib.hid hd'
      have HPZ : Hid (∀ q, q = p i → N q = N (p i)) := Lib.hid (fun q e => by rw [e])
      have hr := fun w' hA' hb' => ih (p i) p w' (by omega) (hK.p_lt i hi) hK hA' hb'
      rw [hKp] at hr
      obtain ⟨z, hz⟩ : ∃ z, N (p i) = z := ⟨_, rfl⟩
      rw [hz] at h3 hcmp hr HPZ
      clear hA hK ih hp hne hd' hKp h7 h8 hz
      go_enter Tryd.func135, Tryd.ntmps135
      go_wp2_with fail
      go_region_with (go_at_call 135; refine (hr _ (HA.out.below (by (repeat (first | (with_reducible exact Below.refl _ _) | (with_reducible refine Ext.drewN ?_ _) | (with_reducible refine Below.drew ?_) | (with_reducible refine Ext.alloc ?_ _) | (with_reducible refine Ext.setCell ?_ (by simp; try omega) _) | (with_reducible refine Ext.trans ?_ (by assumption)) | (with_reducible assumption) | exact Below.refl _ _)))) (by first | assumption | exact hbox)).mono ?_; rintro e w1 ⟨rfl, ⟨p1, hK1, hA1, hp1⟩, bw1⟩; have HP1 := Lib.hid hp1; obtain ⟨⟨g1, g2⟩, g3, g4, g5, g6, g7⟩ := hA1 i hi; have HA1 := Lib.hid hA1; have HK1 := Lib.hid hK1; clear hA1 hK1 hp1)
      all_goals
        go_wp2_with fail
        go_ret
        refine ⟨rfl, ⟨updF p1 i (K i), HK1.out.compress hi, HA1.out.set hN hi, fun j hj hdj => ?_⟩, ?_⟩
        · have hji : j ≠ i := fun e => by rw [e] at hdj; omega
          rw [updF_other p1 hji]
          exact HP1.out j hj (by have := HD.out; omega)
        · exact ((Kept.refl _ w).drew.trans bw1).setCell ⟨i, hi, rfl⟩ _
end Go.Proofs.YtepfnnhmplaocaaDoor
