/- The program's set of unit cells, a row of 160 words: a row's columns added. No condition beyond what lies in memory. -/
import Derived.Test.YtciodcknobccdaaDoorRiF
import Derived.Deep.WholeRow
namespace Go.Proofs.YtciodcknobccdaaDoor
open Go.RowKit
set_option linter.unusedVariables false
set_option linter.unusedSimpArgs false
attribute [local go_sem ↓] Go.wp_at_zero Go.wp_at_succ

/-- The words of a set of unit cells, two a row. -/
def wArr (G : Nat → Nat) : Array Value := (Array.range 160).map fun j => Value.int .u64 (G j : Int)
theorem wArr_size (G : Nat → Nat) : (wArr G).size = 160 := by simp [wArr]
theorem wArr_get (G : Nat → Nat) {j : Nat} (h : j < 160) : (wArr G)[j]? = some (.int .u64 (G j : Int)) := by simp [wArr, h]
theorem wArr_congr {G H : Nat → Nat} (h : ∀ j, j < 160 → G j = H j) : wArr G = wArr H := by
  apply Array.ext_getElem?
  intro i
  by_cases hi : i < 160
  · rw [wArr_get G hi, wArr_get H hi, h i hi]
  · rw [Array.getElem?_eq_none (by rw [wArr_size]; omega), Array.getElem?_eq_none (by rw [wArr_size]; omega)]
def upd (G : Nat → Nat) (j v : Nat) : Nat → Nat := fun k => if k = j then v else G k
theorem wArr_set (G : Nat → Nat) (j v : Nat) (hj : j < 160) : (wArr G).setIfInBounds j (.int .u64 (v : Int)) = wArr (upd G j v) := by
  apply Array.ext_getElem?
  intro i
  rw [Array.getElem?_setIfInBounds]
  by_cases h : j = i
  · subst h
    rw [if_pos rfl, if_pos (by rw [wArr_size]; exact hj), wArr_get _ hj]
    simp [upd]
  · rw [if_neg h]
    by_cases hi : i < 160
    · rw [wArr_get _ hi, wArr_get _ hi]
      simp [upd, Ne.symm h]
    · rw [Array.getElem?_eq_none (by rw [wArr_size]; omega), Array.getElem?_eq_none (by rw [wArr_size]; omega)]

/-- They lie in block b. -/
def RowsAt (W : World) (b : Nat) (G : Nat → Nat) : Prop := W.heap[b]? = some (.cells (wArr G) 151 (0, 0))
theorem RowsAt.lt {W : World} {b : Nat} {G : Nat → Nat} (h : RowsAt W b G) : b < W.heap.size := (Array.getElem?_eq_some_iff.1 h).1
theorem RowsAt.cell {W : World} {b : Nat} {G : Nat → Nat} (h : RowsAt W b G) {j : Nat} (hj : j < 160) : W.cell? ⟨b, j, none⟩ = some (.int .u64 (G j : Int)) :=
  (cell_of_row W b j _ _ _ h).trans (wArr_get G hj)
theorem RowsAt.frozen {W : World} {b : Nat} {G : Nat → Nat} (h : RowsAt W b G) (j : Nat) : W.frozen? ⟨b, j, none⟩ = false := by
  have h' : W.heap[b]? = some (.cells (wArr G) 151 (0, 0)) := h
  simp [World.frozen?, h']
theorem RowsAt.set {W : World} {b : Nat} {G : Nat → Nat} (h : RowsAt W b G) {j : Nat} (hj : j < 160) (v : Nat) : RowsAt (W.setCell ⟨b, j, none⟩ (.int .u64 (v : Int))) b (upd G j v) := by
  have h' : W.heap[b]? = some (.cells (wArr G) 151 (0, 0)) := h
  unfold RowsAt
  simp only [World.setCell, Array.getElem?_modify, if_true, h', Option.map_some]
  simp [wArr_set G j v hj]
theorem RowsAt.below {W W' : World} {b : Nat} {G : Nat → Nat} (h : RowsAt W b G) {n : Nat} (hb : Below n W W') (hn : b < n) : RowsAt W' b G := (hb.block b hn).trans h
theorem RowsAt.ext {W W' : World} {b : Nat} {G : Nat → Nat} (h : RowsAt W b G) (hb : Below W.heap.size W W') : RowsAt W' b G := h.below hb h.lt
theorem RowsAt.kept {W W' : World} {X : Nat → Prop} {b : Nat} {G : Nat → Nat} (h : RowsAt W b G) (hb : Kept X W W') (hX : ¬ X b) : RowsAt W' b G := (hb.block b h.lt hX).trans h
theorem RowsAt.new (W : World) (G : Nat → Nat) : RowsAt (W.alloc (.cells (wArr G) 151)) W.heap.size G := heap_alloc_last W _
theorem RowsAt.congr {W : World} {b : Nat} {G H : Nat → Nat} (h : RowsAt W b G) (e : ∀ j, j < 160 → G j = H j) : RowsAt W b H := by
  unfold RowsAt at *
  rw [← wArr_congr e]; exact h

/-- The set with the columns A, B joined to its row i. -/
def addR (G : Nat → Nat) (i A B : Nat) : Nat → Nat := upd (upd G (i * 2) (G (i * 2) ||| A)) (i * 2 + 1) (G (i * 2 + 1) ||| B)

set_option maxHeartbeats 4000000 in
theorem add_any (b : Nat) (G : Nat → Nat) (y : Int) (A B : Nat) (W : World) (h1 : -40 ≤ y) (h2 : y ≤ 39) (hA : W64 A) (hB : W64 B) (hG : ∀ j, W64 (G j)) (hW : RowsAt W b G) :
    Calls Tryd.prog 151 #[.pointer (some ⟨b, 0, none⟩), .int .i64 y, colV A B] W fun e w' => e = .returned (.tuple #[]) ∧ RowsAt w' b (addR G (y + 40).toNat A B) ∧ Kept (fun k => k = b) W w' := by
  obtain ⟨i, hyi⟩ : ∃ i : Nat, y + 40 = (i : Int) := ⟨(y + 40).toNat, by omega⟩
  have hit : (y + 40).toNat = i := by omega
  rw [hit]
  have hj : i < 80 := by omega
  have c0 := hW.cell (j := i * 2) (by omega)
  have c1 := hW.cell (j := i * 2 + 1) (by omega)
  have f0 := hW.frozen (i * 2)
  have f1 := hW.frozen (i * 2 + 1)
  have g0 := hG (i * 2)
  have g1 := hG (i * 2 + 1)
  have q0 : (0 : Int) ≤ (i : Int) := by omega
  have q1 : (i : Int) < 80 := by omega
  clear hit
  have hwr : IntKind.i64.wrap (i : Int) = (i : Int) := by rw [IntKind.wrap_i64]; omega
  have hb := hW.lt
  have hne : b ≠ W.heap.size := by omega
  have HW := Lib.hid hW
  clear hW
  go_enter Tryd.func151, Tryd.ntmps151
  go_wp2_with fail
  go_region_with (first | (go_at_call 169; refine (with_any _ _ _ _ _ g0 g1 hA hB).mono ?_; rintro e v0 ⟨rfl, bv0⟩; obtain ⟨sv0, zv0, cv0, fv0⟩ := bcell bv0; (try simp only [World.size_alloc, World.size_setCell, World.size_drew] at sv0); (try have nv0_w_0 : W.heap.size < v0.heap.size := by omega); (try have nv0_b : b < v0.heap.size := by omega); (try have nv0_b2 : b < W.heap.size + 1 := by omega)))
  all_goals
    go_wp2_with fail
    go_end0
    have hb0 : Below W.heap.size W v0 := by (repeat (first | (with_reducible exact Below.refl _ _) | (with_reducible refine Ext.drewN ?_ _) | (with_reducible refine Below.drew ?_) | (with_reducible refine Ext.alloc ?_ _) | (with_reducible refine Ext.setCell ?_ (by simp; try omega) _) | (with_reducible refine Ext.trans ?_ (by assumption)) | (with_reducible assumption) | exact Below.refl _ _))
    have hR := HW.out.ext hb0
    exact ⟨rfl, (hR.set (j := i * 2) (by omega) _).set (j := i * 2 + 1) (by omega) _, ((Kept.of_below hb0).setCell (X := fun k => k = b) (p := ⟨b, i * 2, none⟩) rfl _).setCell (p := ⟨b, i * 2 + 1, none⟩) rfl _⟩

set_option maxHeartbeats 4000000 in
/-- The rectangles at the beginning that cover the same rows as the first one. -/
def bandN (Q S : Nat → Int) (len : Nat) : Nat → Nat → Nat
  | 0, k => k
  | n + 1, k => if k < len ∧ Q k = Q 0 ∧ S k = S 0 then bandN Q S len n (k + 1) else k
theorem bandN_stop (Q S : Nat → Int) (len : Nat) {n k : Nat} (h : ¬ (k < len ∧ Q k = Q 0 ∧ S k = S 0)) : bandN Q S len n k = k := by
  cases n with
  | zero => rfl
  | succ n => rw [bandN, if_neg h]
theorem bandN_step (Q S : Nat → Int) (len : Nat) {n k : Nat} (hn : len - k ≤ n) (h : k < len ∧ Q k = Q 0 ∧ S k = S 0) : ∃ m, len - (k + 1) ≤ m ∧ bandN Q S len n k = bandN Q S len m (k + 1) := by
  cases n with
  | zero => omega
  | succ n => exact ⟨n, by omega, by rw [bandN, if_pos h]⟩
theorem bandN_spec (Q S : Nat → Int) (len : Nat) : ∀ n k, k ≤ len → k ≤ bandN Q S len n k ∧ bandN Q S len n k ≤ len ∧ ∀ i, k ≤ i → i < bandN Q S len n k → Q i = Q 0 ∧ S i = S 0
  | 0, k, hk => ⟨Nat.le_refl _, hk, fun i h1 h2 => by unfold bandN at h2; omega⟩
  | n + 1, k, hk => by
    rw [bandN]
    by_cases h : k < len ∧ Q k = Q 0 ∧ S k = S 0
    · rw [if_pos h]
      obtain ⟨h1, h2, h3⟩ := bandN_spec Q S len n (k + 1) h.1
      refine ⟨by omega, h2, fun i i1 i2 => ?_⟩
      by_cases e : i = k
      · rw [e]; exact h.2
      · exact h3 i (by omega) i2
    · rw [if_neg h]
      exact ⟨Nat.le_refl _, hk, fun i i1 i2 => by omega⟩

set_option maxHeartbeats 4000000 in
theorem firstBand_any (b o len cap : Nat) (P Q R S : Nat → Int) (w : World) (hlen : len ≤ 1048576) (h0 : 0 < len) (hcap : len ≤ cap) (hR : RectsIs w.heap.size w (some ⟨b, o, none⟩) len P Q R S) :
    Calls Tryd.prog 167 #[.slice (some ⟨b, o, none⟩) len cap] w fun e w' => e = .returned (.slice (some ⟨b, o, none⟩) (bandN Q S len len 1) cap) ∧ Below w.heap.size w w' := by
  obtain ⟨b0, o0, hbo, hb0, t0, t1, t2, t3⟩ := hR 0 h0
  obtain ⟨rfl, rfl⟩ : b = b0 ∧ o = o0 := by simpa using hbo
  simp only [Nat.zero_mul, Nat.add_zero] at t0 t1 t2 t3
  have HR := Lib.hid hR
  obtain ⟨N, hN⟩ : ∃ N, N = bandN Q S len len 1 := ⟨_, rfl⟩
  rw [← hN]
  have HN := Lib.hid hN
  clear hR hN hbo
  go_enter Tryd.func167, Tryd.ntmps167
  go_wp2_with fail
  go_loopw [3] (fun s3 wr => ∃ k n : Nat, 1 ≤ k ∧ k ≤ len ∧ s3 = .int .i64 (k : Int) ∧ len - k ≤ n ∧ N = bandN Q S len n k ∧ Below w.heap.size w wr) (fun s3 _ => len - (intOf s3).toNat)
  case atStart => exact ⟨1, len, by omega, by omega, rfl, by omega, HN.out, by (repeat (first | (with_reducible exact Below.refl _ _) | (with_reducible refine Ext.drewN ?_ _) | (with_reducible refine Below.drew ?_) | (with_reducible refine Ext.alloc ?_ _) | (with_reducible refine Ext.setCell ?_ (by simp; try omega) _) | (with_reducible refine Ext.trans ?_ (by assumption)) | (with_reducible assumption) | exact Below.refl _ _))⟩
  case round =>
    obtain ⟨k, n, hk1, hk, rfl, hn, hNk, hb⟩ := hrel
    have HNk := Lib.hid hNk
    clear hNk
    obtain ⟨b1, o1, hbo, -, u0, u1, u2, u3⟩ := HR.out.below hb 0 h0
    obtain ⟨rfl, rfl⟩ : b = b1 ∧ o = o1 := by simpa using hbo
    simp only [Nat.zero_mul, Nat.add_zero] at u0 u1 u2 u3
    have p0 : (0 : Int) ≤ (k : Int) := by omega
    have p1 : (0 : Int) < (len : Int) := by omega
    have hNE : ¬ (k < len ∧ Q k = Q 0 ∧ S k = S 0) → N = k := fun h => by rw [HNk.out, bandN_stop Q S len h]
    have hNS := fun h => bandN_step Q S len (k := k) hn h
    have HNE := Lib.hid hNE
    have HNS := Lib.hid hNS
    clear hNE hNS
    by_cases hlt : k < len
    · have q1 : (k : Int) < (len : Int) := by omega
      obtain ⟨b1, o1, hbo, -, c0, c1, c2, c3⟩ := HR.out.below hb k hlt
      obtain ⟨rfl, rfl⟩ : b = b1 ∧ o = o1 := by simpa using hbo
      clear hbo
      by_cases e1 : Q k = Q 0
      · rw [e1] at c1
        by_cases e2 : S k = S 0
        · rw [e2] at c3
          have E := Lib.hid (And.intro e1 e2)
          clear e1 e2
          go_wp2_with fail
          go_region
          all_goals go_wp2_with fail
          go_roundw
          case rel =>
            obtain ⟨m, m1, m2⟩ := HNS.out ⟨hlt, E.out.1, E.out.2⟩
            exact ⟨k + 1, m, by omega, by omega, by go_num, m1, by rw [HNk.out, m2], hb.drew⟩
          case measure => simp [intOf]; omega
        · have e3 : (S k == S 0) = false := by simp [e2]
          obtain rfl := HNE.out (fun h => e2 h.2.2)
          have p2 : (N : Int) ≤ (cap : Int) := by omega
          go_wp2_with fail
          go_region
          all_goals go_wp2_with fail
          go_ret
          exact ⟨rfl, hb.drew⟩
      · have e3 : (Q k == Q 0) = false := by simp [e1]
        obtain rfl := HNE.out (fun h => e1 h.2.1)
        have p2 : (N : Int) ≤ (cap : Int) := by omega
        go_wp2_with fail
        go_region
        all_goals go_wp2_with fail
        go_ret
        exact ⟨rfl, hb.drew⟩
    · have q1 : ¬ (k : Int) < (len : Int) := by omega
      obtain rfl := HNE.out (fun h => hlt h.1)
      have p2 : (N : Int) ≤ (cap : Int) := by omega
      go_wp2_with fail
      go_region
      all_goals go_wp2_with fail
      go_ret
      exact ⟨rfl, hb.drew⟩
end Go.Proofs.YtciodcknobccdaaDoor
