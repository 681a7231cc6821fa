/- Drawn regions with a size. Condition: the code's bytes are in memory. -/
import Derived.Test.YtgccnongfdbalaaDoorQT
import Derived.Test.YtgccnongfdbalaaDoorQZ
namespace Go.Proofs.YtgccnongfdbalaaDoor
open Go.RowKit
set_option linter.unusedVariables false
set_option linter.unusedSimpArgs false

set_option maxHeartbeats 4000000 in
theorem drawSize_any (B g : Nat) (a : Option Addr) (len cap : Nat) (w0 w : World) (hlen : len ≤ 8192) (hg : B ≤ g) (hA : SrcAt B g w0 w a len cap) :
    Calls Tryd.prog 83 #[.pointer (some ⟨g, 0, none⟩)] w fun e w' => (∃ k : Int, -1 ≤ k ∧ k ≤ 11 ∧ e = .returned (.int .i64 k)) ∧ Only g w w' ∧ SrcAt B g w0 w' a len cap := by
  have HA := Lib.hid hA
  clear hA
  go_enter Tryd.func83, Tryd.ntmps83
  go_wp2_with fail
  refine (HA.out.next2 14 hlen hg (by omega) (by omega)).mono ?_
  rintro e w1 ⟨⟨r, r0, r1, rfl⟩, on1, hA1⟩
  have HA1 := Lib.hid hA1
  have ON1 := Lib.hid on1
  clear hA1 on1 HA
  by_cases hr : r = 0
  · have q : (r == 0) = true := by simp [hr]
    go_wp2_with fail
    refine (HA1.out.next2 3 hlen hg (by omega) (by omega)).mono ?_
    rintro e w2 ⟨⟨s, s0, s1, rfl⟩, on2, hA2⟩
    have HA2 := Lib.hid hA2
    have ON2 := Lib.hid (ON1.out.trans on2)
    clear hA2 on2 HA1
    have hw : IntKind.i64.wrap (s * 6) = s * 6 := by rw [IntKind.wrap_i64]; omega
    have hw2 : IntKind.i64.wrap (s * 6 - 1) = s * 6 - 1 := by rw [IntKind.wrap_i64]; omega
    go_wp2_with fail
    go_ret
    exact ⟨⟨s * 6 - 1, by omega, by omega, rfl⟩, ON2.out, HA2.out⟩
  · have q : (r == 0) = false := by simp [hr]
    go_wp2_with fail
    refine (HA1.out.next2 4 hlen hg (by omega) (by omega)).mono ?_
    rintro e w2 ⟨⟨s, s0, s1, rfl⟩, on2, hA2⟩
    have HA2 := Lib.hid hA2
    have ON2 := Lib.hid (ON1.out.trans on2)
    clear hA2 on2 HA1
    go_wp2_with fail
    go_ret
    exact ⟨⟨s, by omega, by omega, rfl⟩, ON2.out, HA2.out⟩
/-- A drawn list with a size. -/
def DrawnSz (w : World) (e : Ending) (w' : World) : Prop := ∃ (u : Value) (l : List R4) (k : Int), e = .returned (.tuple #[u, .int .i64 k]) ∧ -1 ≤ k ∧ k ≤ 11 ∧ DrawnOne w.heap.size w' u l ∧ Below w.heap.size w w'
set_option maxHeartbeats 4000000 in
theorem drawGrow_any (a : Option Addr) (len cap : Nat) (w : World) (hlen : len ≤ 8192) (hC : CodeIs w.heap.size w a len) :
    Calls Tryd.prog 31 #[.slice a len cap] w (DrawnSz w) := by
  go_enter Tryd.func31, Tryd.ntmps31
  go_wp2_with fail
  refine (l01From_any w.heap.size a len cap _ hlen (Nat.le_refl _) hC).mono ?_
  rintro e w1 ⟨g, hg0, hg1, rfl, bw1, hS1⟩
  have A1 := Lib.hid (show SrcAt w.heap.size g w1 w1 a len cap from ⟨Only.refl _ _, hS1, hC.below bw1, bw1.size⟩)
  have B1 := Lib.hid bw1
  have l1 := bw1.size
  clear hS1 bw1 hC
  go_wp2_with fail
  refine (drawRegion_any w.heap.size g a len cap w1 w1 hlen l1 hg0 A1.out).mono ?_
  rintro e w2 ⟨h2, c2, f2, rfl, hI2, hA2⟩
  have I2 := Lib.hid hI2
  have A2 := Lib.hid hA2.rebase
  have O2 := Lib.hid hA2.1
  have l2 := hA2.1.size
  have n2 := canonL_len f2
  clear hI2 hA2 A1
  go_wp2_with fail
  refine (spoil_any w1.heap.size w.heap.size g h2 c2 (canonL f2) 12 a len cap w2 w2 hlen hg0 (by omega) A2.out hg1 l2 n2 I2.out (by omega) (by omega)).mono ?_
  rintro e w3 ⟨h3, c3, l3, rfl, n3, hI3, hA3⟩
  have I3 := Lib.hid hI3
  have A3 := Lib.hid hA3.rebase
  have O3 := Lib.hid (O2.out.trans hA3.1)
  have ls3 := hA3.1.size
  clear hI3 hA3 A2 I2 O2 n2
  go_wp2_with fail
  refine (drawSize_any w.heap.size g a len cap w3 w3 hlen hg0 A3.out).mono ?_
  rintro e w4 ⟨⟨k, kl, ku, rfl⟩, on4, hA4⟩
  have I34 := Lib.hid ((I3.out.only on4 hg1).lower l1)
  have O4 := Lib.hid (O3.out.trans on4)
  clear hA4 A3 I3 O3 on4
  go_wp2_with fail
  refine bodyPost_ret (v := .tuple #[.slice (some ⟨h3, 0, none⟩) l3.length c3, .int .i64 k]) (by simp [results, Tryd.results31, go_sem]) rfl ⟨_, l3, k, rfl, kl, ku, ⟨h3, c3, rfl, n3, I34.out⟩, Only.below B1.out O4.out l1 hg0⟩
set_option maxHeartbeats 4000000 in
theorem drawOpening_any (a : Option Addr) (len cap : Nat) (w : World) (hlen : len ≤ 8192) (hC : CodeIs w.heap.size w a len) :
    Calls Tryd.prog 39 #[.slice a len cap] w (DrawnSz w) := by
  go_enter Tryd.func39, Tryd.ntmps39
  go_wp2_with fail
  refine (l01From_any w.heap.size a len cap _ hlen (Nat.le_refl _) hC).mono ?_
  rintro e w1 ⟨g, hg0, hg1, rfl, bw1, hS1⟩
  have A1 := Lib.hid (show SrcAt w.heap.size g w1 w1 a len cap from ⟨Only.refl _ _, hS1, hC.below bw1, bw1.size⟩)
  have B1 := Lib.hid bw1
  have l1 := bw1.size
  clear hS1 bw1 hC
  go_wp2_with fail
  refine (drawRegion_any w.heap.size g a len cap w1 w1 hlen l1 hg0 A1.out).mono ?_
  rintro e w2 ⟨h2, c2, f2, rfl, hI2, hA2⟩
  have I2 := Lib.hid hI2
  have A2 := Lib.hid hA2.rebase
  have O2 := Lib.hid hA2.1
  have l2 := hA2.1.size
  have n2 := canonL_len f2
  clear hI2 hA2 A1
  go_wp2_with fail
  refine (spoil_any w1.heap.size w.heap.size g h2 c2 (canonL f2) 12 a len cap w2 w2 hlen hg0 (by omega) A2.out hg1 l2 n2 I2.out (by omega) (by omega)).mono ?_
  rintro e w3 ⟨h3, c3, l3, rfl, n3, hI3, hA3⟩
  have I3 := Lib.hid hI3
  have A3 := Lib.hid hA3.rebase
  have O3 := Lib.hid (O2.out.trans hA3.1)
  have ls3 := hA3.1.size
  clear hI3 hA3 A2 I2 O2 n2
  go_wp2_with fail
  refine (drawSize_any w.heap.size g a len cap w3 w3 hlen hg0 A3.out).mono ?_
  rintro e w4 ⟨⟨k, kl, ku, rfl⟩, on4, hA4⟩
  have I34 := Lib.hid ((I3.out.only on4 hg1).lower l1)
  have O4 := Lib.hid (O3.out.trans on4)
  clear hA4 A3 I3 O3 on4
  go_wp2_with fail
  refine bodyPost_ret (v := .tuple #[.slice (some ⟨h3, 0, none⟩) l3.length c3, .int .i64 k]) (by simp [results, Tryd.results39, go_sem]) rfl ⟨_, l3, k, rfl, kl, ku, ⟨h3, c3, rfl, n3, I34.out⟩, Only.below B1.out O4.out l1 hg0⟩
set_option maxHeartbeats 4000000 in
theorem drawSquareCover_any (a : Option Addr) (len cap : Nat) (w : World) (hlen : len ≤ 8192) (hC : CodeIs w.heap.size w a len) :
    Calls Tryd.prog 43 #[.slice a len cap] w (DrawnSz w) := by
  go_enter Tryd.func43, Tryd.ntmps43
  go_wp2_with fail
  refine (l01From_any w.heap.size a len cap _ hlen (Nat.le_refl _) hC).mono ?_
  rintro e w1 ⟨g, hg0, hg1, rfl, bw1, hS1⟩
  have A1 := Lib.hid (show SrcAt w.heap.size g w1 w1 a len cap from ⟨Only.refl _ _, hS1, hC.below bw1, bw1.size⟩)
  have B1 := Lib.hid bw1
  have l1 := bw1.size
  clear hS1 bw1 hC
  go_wp2_with fail
  refine (drawRegion_any w.heap.size g a len cap w1 w1 hlen l1 hg0 A1.out).mono ?_
  rintro e w2 ⟨h2, c2, f2, rfl, hI2, hA2⟩
  have I2 := Lib.hid hI2
  have A2 := Lib.hid hA2.rebase
  have O2 := Lib.hid hA2.1
  have l2 := hA2.1.size
  have n2 := canonL_len f2
  clear hI2 hA2 A1
  go_wp2_with fail
  refine (spoil_any w1.heap.size w.heap.size g h2 c2 (canonL f2) 12 a len cap w2 w2 hlen hg0 (by omega) A2.out hg1 l2 n2 I2.out (by omega) (by omega)).mono ?_
  rintro e w3 ⟨h3, c3, l3, rfl, n3, hI3, hA3⟩
  have I3 := Lib.hid hI3
  have A3 := Lib.hid hA3.rebase
  have O3 := Lib.hid (O2.out.trans hA3.1)
  have ls3 := hA3.1.size
  clear hI3 hA3 A2 I2 O2 n2
  go_wp2_with fail
  refine (drawSize_any w.heap.size g a len cap w3 w3 hlen hg0 A3.out).mono ?_
  rintro e w4 ⟨⟨k, kl, ku, rfl⟩, on4, hA4⟩
  have I34 := Lib.hid ((I3.out.only on4 hg1).lower l1)
  have O4 := Lib.hid (O3.out.trans on4)
  clear hA4 A3 I3 O3 on4
  go_wp2_with fail
  refine bodyPost_ret (v := .tuple #[.slice (some ⟨h3, 0, none⟩) l3.length c3, .int .i64 k]) (by simp [results, Tryd.results43, go_sem]) rfl ⟨_, l3, k, rfl, kl, ku, ⟨h3, c3, rfl, n3, I34.out⟩, Only.below B1.out O4.out l1 hg0⟩
end Go.Proofs.YtgccnongfdbalaaDoor

namespace Go.Proofs.YtgccnongfdbalaaDoor
open Go.RowKit
set_option linter.unusedVariables false
set_option linter.unusedSimpArgs false

def LeF (f g : Nat → Bool) : Prop := ∀ j, j < 6400 → f j = true → g j = true
theorem LeF.refl (f : Nat → Bool) : LeF f f := fun _ _ h => h
theorem LeF.trans {f g h : Nat → Bool} (a : LeF f g) (b : LeF g h) : LeF f h := fun j hj e => b j hj (a j hj e)
theorem LeF.antisymm {f g : Nat → Bool} (a : LeF f g) (b : LeF g f) : ∀ j, j < 6400 → f j = g j := fun j hj => by
  rw [Bool.eq_iff_iff]; exact ⟨a j hj, b j hj⟩
theorem gal (f g : Nat → Bool) (k : Nat) : LeF (seeF f k k) g ↔ LeF f (shF g k k) := grow_shrink f g k
theorem counit (g : Nat → Bool) (k : Nat) : LeF (seeF (shF g k k) k k) g := (gal _ _ k).2 (LeF.refl _)
theorem unit' (f : Nat → Bool) (k : Nat) : LeF f (shF (seeF f k k) k k) := (gal _ _ k).1 (LeF.refl _)
theorem see_mono {f g : Nat → Bool} (k : Nat) (h : LeF f g) : LeF (seeF f k k) (seeF g k k) := (gal _ _ k).2 (h.trans (unit' g k))
theorem sh_mono {f g : Nat → Bool} (k : Nat) (h : LeF f g) : LeF (shF f k k) (shF g k k) := (gal _ _ k).1 ((counit f k).trans h)
theorem opn_le (f : Nat → Bool) (k : Nat) : LeF (opnF f k) f := counit f k
theorem cls_ge (f : Nat → Bool) (k : Nat) : LeF f (clsF f k) := unit' f k
theorem opn_idem (f : Nat → Bool) (k : Nat) : ∀ j, j < 6400 → opnF (opnF f k) k j = opnF f k j :=
  LeF.antisymm (counit _ k) (see_mono k (unit' _ k))
theorem cls_idem (f : Nat → Bool) (k : Nat) : ∀ j, j < 6400 → clsF (clsF f k) k j = clsF f k j :=
  LeF.antisymm (sh_mono k (counit _ k)) (unit' _ k)
theorem opn_congr {f g : Nat → Bool} (h : ∀ j, j < 6400 → f j = g j) (k : Nat) : ∀ j, j < 6400 → opnF f k j = opnF g k j :=
  fun j hj => seeF_congr (fun i hi => shF_congr h k k hi) k k hj
theorem cls_congr {f g : Nat → Bool} (h : ∀ j, j < 6400 → f j = g j) (k : Nat) : ∀ j, j < 6400 → clsF f k j = clsF g k j :=
  fun j hj => shF_congr (fun i hi => seeF_congr h k k hi) k k hj
/-- A region covers another one. -/
theorem cv_yes {l m : List R4} (hl : okR (pA l) (pB l) (pC l) (pD l) l.length = true) (hm : okR (pA m) (pB m) (pC m) (pD m) m.length = true)
    (h : LeF (covF (pA m) (pB m) (pC m) (pD m) m.length) (covF (pA l) (pB l) (pC l) (pD l) l.length)) : cvB (pA l) (pB l) (pC l) (pD l) l.length (pA m) (pB m) (pC m) (pD m) m.length = true := by
  unfold cvB
  rw [hl, hm]
  have h0 : (canonL (opF 4 (pA m) (pB m) (pC m) (pD m) m.length (pA l) (pB l) (pC l) (pD l) l.length)).length = 0 := (canonL_none_iff _).2 fun j hj => by
    have := h j hj
    unfold opF tt
    cases e1 : covF (pA m) (pB m) (pC m) (pD m) m.length j <;> cases e2 : covF (pA l) (pB l) (pC l) (pD l) l.length j
    · decide
    · decide
    · rw [e1, e2] at this; simp at this
    · decide
  rw [h0]; rfl
theorem cov_of_canon {l : List R4} {f : Nat → Bool} (h : l = canonL f) : ∀ j, j < 6400 → covF (pA l) (pB l) (pC l) (pD l) l.length j = f j := by
  subst h; exact fun j hj => cov_canonL_all _ hj
theorem okR_of_canon {l : List R4} {f : Nat → Bool} (h : l = canonL f) : okR (pA l) (pB l) (pC l) (pD l) l.length = true := by subst h; exact okR_canonL f
theorem sz_of_canon {F : (Nat → Bool) → Nat → Nat → Bool} (hc : ∀ (f g : Nat → Bool) (k : Nat), (∀ j, j < 6400 → f j = g j) → ∀ j, j < 6400 → F f k j = F g k j) {l : List R4} {f : Nat → Bool} (h : l = canonL f) {k : Int} (hk : inB k 0 10 = true) :
    szL F (pA l) (pB l) (pC l) (pD l) l.length k = canonL (F f k.toNat) := by
  rw [szV_yes (by rw [okR_of_canon h, hk]; rfl)]
  exact canonL_congr fun j hj => hc _ _ _ (cov_of_canon h) j hj
theorem same_l (l : List R4) : decide (listR (pA l) (pB l) (pC l) (pD l) l.length = listR (pA l) (pB l) (pC l) (pD l) l.length) = true := decide_eq_true rfl
theorem canon_ofS {l : List R4} (h : okR (pA l) (pB l) (pC l) (pD l) l.length = true) : l = canonL (covF (pA l) (pB l) (pC l) (pD l) l.length) := (listR_pA l).symm.trans (okR_list h)
end Go.Proofs.YtgccnongfdbalaaDoor

namespace Go.Proofs.YtgccnongfdbalaaDoor
open Go.RowKit
set_option linter.unusedVariables false
set_option linter.unusedSimpArgs false

set_option maxHeartbeats 4000000 in
theorem other9_any (a : Option Addr) (len cap : Nat) (w : World) (hlen : len ≤ 4096) (hC : CodeIs w.heap.size w a len) :
    Calls Tryd.prog 26 #[.slice a len cap, .int .u8 9] w fun e w' => (∃ (h c : Nat), e = .returned (.slice (some ⟨h, 0, none⟩) (3 + len) c) ∧ CodeIs w'.heap.size w' (some ⟨h, 0, none⟩) (3 + len)) ∧ Below w.heap.size w w' := by
  obtain ⟨i0, hi, hz0, hz1, hz2⟩ := info_parts infoU8
  obtain ⟨wz, hwz⟩ : ∃ wz, wz = w.alloc (.cells #[.int .u8 9, .int .u8 16, .int .u8 27] 5) := ⟨_, rfl⟩
  have bz : Below w.heap.size w wz := by rw [hwz]; (repeat (first | (with_reducible exact Below.refl _ _) | (with_reducible refine Ext.drewN ?_ _) | (with_reducible refine Below.drew ?_) | (with_reducible refine Ext.alloc ?_ _) | (with_reducible refine Ext.setCell ?_ (by simp; try omega) _) | (with_reducible refine Ext.trans ?_ (by assumption)) | (with_reducible assumption) | exact Below.refl _ _))
  have sz : wz.heap.size = w.heap.size + 1 := by rw [hwz]; simp
  have OZ : Hid (wz.ownsRow w.heap.size 5 1 (.slice (some ⟨w.heap.size, 0, none⟩) 3 3) 3 [.int .u8 9, .int .u8 16, .int .u8 27]) := Lib.hid (by
    rw [hwz]
    exact ⟨rfl, .inr ⟨w.heap.size, 3, #[.int .u8 9, .int .u8 16, .int .u8 27], rfl, Nat.le_refl _, heap_alloc_new w _, Nat.le_refl _, by unfold maxLen; decide, rfl, rfl⟩⟩)
  have hb3 : ∀ u ∈ [Value.int .u8 9, .int .u8 16, .int .u8 27], byteV u := fun u hu => by
    simp only [List.mem_cons, List.not_mem_nil, or_false] at hu
    rcases hu with rfl | rfl | rfl
    · exact ⟨9, rfl, by omega, by omega⟩
    · exact ⟨16, rfl, by omega, by omega⟩
    · exact ⟨27, rfl, by omega, by omega⟩
  cases a with
  | none =>
    obtain rfl : len = 0 := by
      by_cases h : len = 0
      · exact h
      · obtain ⟨b, off, v, h1, _⟩ := hC 0 (by omega)
        cases h1
    go_enter Tryd.func26, Tryd.ntmps26
    go_wp2_with fail
    simp [Sem.run_pure, Result.andThen_ok, storeCells]
    rw [← hwz]
    obtain ⟨g, c, he, hcode⟩ := own_code OZ.out (by intro e; cases e) hb3
    cases he
    go_ret
    exact ⟨⟨_, ⟨_, rfl⟩, hcode⟩, bz⟩
  | some ad =>
    obtain ⟨news, hnl, hnc, hnb⟩ := code_news (CodeIs.below hC bz)
    have HB := Lib.hid hnb
    have HNC := Lib.hid hnc
    clear hnb hnc
    go_enter Tryd.func26, Tryd.ntmps26
    go_wp2_with (at_builtin; rw [← hwz]; refine wpList_append_own _ rfl _ _ 22 rfl w.heap.size 5 i0 (.int .u8 0) 1 1 Tryd.underlying22 hi hz0 hz1 hz2 rfl (by decide) _ _ _ rfl OZ.out ad len cap news rfl (by omega) HNC.out (fun u hu => by obtain ⟨x, rfl, _⟩ := HB.out u hu; rfl) (by unfold maxLen; omega) (by omega) (by omega) ?_; intro v' w4 hown4 hgrow hnil)
    have hnn : v' ≠ .slice none 0 0 := fun e => by have := (hnil.1 e).1; cases this
    have hall : ∀ u ∈ [Value.int .u8 9, .int .u8 16, .int .u8 27] ++ news, byteV u := fun u hu => by
      rcases List.mem_append.1 hu with h | h
      · exact hb3 u h
      · exact HB.out u h
    obtain ⟨g, c, rfl, hcode⟩ := own_code hown4 hnn hall
    have HI := Lib.hid hcode
    have b4 : Below w.heap.size w w4 := bz.grown hgrow bz.size (fun j hj => (OZ.out.lt j hj).1)
    clear hown4 hgrow hnil hnn hcode hall hb3
    go_wp2_with fail
    go_ret
    exact ⟨⟨g, c, rfl, HI.out⟩, b4⟩

theorem recL_cells {B b off : Nat} {w : World} {l : List R4} (hR : RectsL B w (some ⟨b, off, none⟩) l) : ∀ j u, (recCells l)[j]? = some u → w.cell? ((⟨b, off, none⟩ : Addr).add j) = some u := fun j u hj => by
  have hlt : j < (recCells l).length := by
    rcases Nat.lt_or_ge j (recCells l).length with k | k
    · exact k
    · rw [List.getElem?_eq_none k] at hj; cases hj
  rw [recCells_len] at hlt
  have hi : j / 4 < l.length := by omega
  have hg := getD_get hi
  obtain ⟨r0, r1, r2, r3⟩ := recCells_at l (j / 4) _ hg
  obtain ⟨b', o', he, hb, c0, c1, c2, c3⟩ := hR (j / 4) hi
  cases he
  rw [adN]
  have h4 : j % 4 < 4 := Nat.mod_lt _ (by omega)
  have e : j = j / 4 * 4 + j % 4 := by omega
  generalize j / 4 = q at *
  generalize j % 4 = t at *
  subst e
  match t, h4 with
  | 0, _ => rw [Nat.add_zero] at hj ⊢; rw [r0] at hj; cases hj; exact c0
  | 1, _ => rw [r1] at hj; cases hj; rw [← Nat.add_assoc]; exact c1
  | 2, _ => rw [r2] at hj; cases hj; rw [← Nat.add_assoc]; exact c2
  | 3, _ => rw [r3] at hj; cases hj; rw [← Nat.add_assoc]; exact c3
set_option maxHeartbeats 4000000 in
theorem copyRectsL_any (B : Nat) (a : Option Addr) (c : Nat) (l : List R4) (w : World) (hl : l.length ≤ 1048576) (hB : B ≤ w.heap.size) (hR : RectsL B w a l) :
    Calls Tryd.prog 29 #[.slice a l.length c] w (CopyL w l) := by
  obtain ⟨i0, hi, hz0, hz1, hz2⟩ := info_parts Tryd.infoR
  obtain ⟨wz, hwz⟩ : ∃ wz, wz = w.alloc (.cells #[] 29) := ⟨_, rfl⟩
  have sz : wz.heap.size = w.heap.size + 1 := by rw [hwz]; simp
  have bz : Below w.heap.size w wz := by rw [hwz]; (repeat (first | (with_reducible exact Below.refl _ _) | (with_reducible refine Ext.drewN ?_ _) | (with_reducible refine Below.drew ?_) | (with_reducible refine Ext.alloc ?_ _) | (with_reducible refine Ext.setCell ?_ (by simp; try omega) _) | (with_reducible refine Ext.trans ?_ (by assumption)) | (with_reducible assumption) | exact Below.refl _ _))
  have OZ : Hid (wz.ownsRow w.heap.size 29 4 (.slice (some ⟨w.heap.size, 0, none⟩) 0 0) 0 []) := Lib.hid (by
    have hm := World.ownsRow_made (base := w.heap.size) (size := 4) (e := 29) w #[] 0 (Nat.le_refl _) (by unfold maxLen; decide) rfl
    rw [hwz]
    exact hm)
  have HR := Lib.hid (show RectsL B wz a l from hR.below (bz.mono hB))
  clear hR
  cases a with
  | none =>
    have hl0 : l = [] := by
      cases l with
      | nil => rfl
      | cons r l' =>
        obtain ⟨b, off, h1, _⟩ := HR.out 0 (by simp)
        cases h1
    subst hl0
    go_enter Tryd.func29, Tryd.ntmps29
    go_upto_region 1 with fail
    refine wp_region_lit ?_
    go_wp2_with fail
    rw [← hwz]
    go_ret
    exact ⟨w.heap.size, 0, rfl, Nat.le_refl _, ⟨Nat.le_refl _, by omega, fun i r hr => by simp at hr⟩, bz⟩
  | some ad =>
    have HC : Hid (∀ j u, (recCells l)[j]? = some u → wz.cell? (ad.add j) = some u) := Lib.hid fun j u hj => by
      have hlt : j < (recCells l).length := (List.getElem?_eq_some_iff.1 hj).1
      rw [recCells_len] at hlt
      obtain ⟨b, off, h1, h2⟩ := HR.out 0 (by omega)
      cases h1
      exact recL_cells HR.out j u hj
    clear HR
    go_enter Tryd.func29, Tryd.ntmps29
    go_upto_region 1 with fail
    refine wp_region_lit ?_
    go_wp2_with (at_builtin; rw [← hwz]; refine wpList_append_own _ rfl _ _ 24 rfl w.heap.size 29 i0 (.agg #[.int .i64 0, .int .i64 0, .int .i64 0, .int .i64 0]) 4 32 Tryd.underlying24 hi hz0 hz1 hz2 rfl (by decide) _ _ _ rfl OZ.out ad l.length c (recCells l) rfl (recCells_len l) HC.out (rec_one l) (by unfold maxLen; omega) (by omega) (by omega) ?_; intro v' w4 hown4 hgrow hnil)
    have hnn : v' ≠ .slice none 0 0 := fun e => by have := (hnil.1 e).1; cases this
    obtain ⟨h4, c4, rfl, hc4, hown5⟩ := own_some (l := l) (by omega) hown4 hnn
    have b4 : Below w.heap.size w w4 := bz.grown hgrow bz.size (fun j hj => (OZ.out.lt j hj).1)
    have HI := Lib.hid (rec_own hown5)
    clear hown4 hown5 hgrow hnil hnn
    go_wp2_with fail
    go_ret
    exact ⟨h4, c4, rfl, hc4, HI.out, b4⟩
end Go.Proofs.YtgccnongfdbalaaDoor
