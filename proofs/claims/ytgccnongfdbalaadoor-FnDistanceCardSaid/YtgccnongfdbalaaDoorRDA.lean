/- The program's RegionDistance: its closure and the search. Conditions: the elements' cells are in memory; the tables are in memory. -/
import Derived.Test.YtgccnongfdbalaaDoorRAA
import Derived.Test.YtgccnongfdbalaaDoorQM
import Derived.Test.YtgccnongfdbalaaDoorQA
namespace Go.Proofs.YtgccnongfdbalaaDoor
open Go.RowKit Go.Shelf
set_option linter.unusedVariables false
set_option linter.unusedSimpArgs false
attribute [local go_sem] Oper.semAt_some

/-- Some cell of g is seen from f at a distance of at most s. -/
def nrB (f g : Nat → Bool) (s : Nat) : Bool := decide (0 < (canonL fun j => tt 8 (seeF f s s j) (g j)).length)
theorem nrB_t (f g : Nat → Bool) (s : Nat) : nrB f g s = true ↔ ∃ j, j < 6400 ∧ seeF f s s j = true ∧ g j = true := by
  unfold nrB
  rw [decide_eq_true_eq]
  constructor
  · intro h
    by_cases e : ∃ j, j < 6400 ∧ seeF f s s j = true ∧ g j = true
    · exact e
    · have := (canonL_none_iff (fun j => tt 8 (seeF f s s j) (g j))).2 fun j hj => by
        cases e1 : seeF f s s j <;> cases e2 : g j
        · rfl
        · rfl
        · rfl
        · exact absurd ⟨j, hj, e1, e2⟩ e
      omega
  · rintro ⟨j, hj, h1, h2⟩
    rcases Nat.eq_zero_or_pos (canonL fun j => tt 8 (seeF f s s j) (g j)).length with h | h
    · have := (canonL_none_iff _).1 h j hj
      simp only [h1, h2] at this
      exact absurd this (by decide)
    · exact h
theorem nrB_mono {f g : Nat → Bool} {s t : Nat} (hst : s ≤ t) (h : nrB f g s = true) : nrB f g t = true := by
  obtain ⟨j, hj, h1, h2⟩ := (nrB_t _ _ _).1 h
  obtain ⟨u, v, a1, a2, a3, a4, a5, a6, a7⟩ := (seeF_t _ _ _ _).1 h1
  exact (nrB_t _ _ _).2 ⟨j, hj, (seeF_t _ _ _ _).2 ⟨u, v, by omega, by omega, a3, by omega, by omega, a6, a7⟩, h2⟩
theorem ov_nr {l : List R4} {A B C D : Nat → Int} {k : Nat} {f : Nat → Bool} {s : Nat} (hl : l = canonL (seeF f s s)) (hok : okR A B C D k = true) :
    ovL (pA l) (pB l) (pC l) (pD l) l.length A B C D k = nrB f (covF A B C D k) s := by
  unfold ovL nrB
  rw [okR_of_canon hl, hok, Bool.true_and, Bool.true_and]
  have e : canonL (opF 8 (pA l) (pB l) (pC l) (pD l) l.length A B C D k) = canonL fun j => tt 8 (seeF f s s j) (covF A B C D k j) := canonL_congr fun j hj => by
    unfold opF
    rw [cov_of_canon hl j hj]
  rw [e]
set_option maxRecDepth 100000 in
set_option maxHeartbeats 4000000 in
theorem rdClosure_any (x y s : Nat) (hs : s ≤ 1000) (m : Option Addr) (n c : Nat) (P Q R S : Nat → Int) (m' : Option Addr) (k c' : Nat) (A B C D : Nat → Int) (w : World) (hx : w.cell? ⟨x, 0, none⟩ = some (.slice m n c)) (hy : w.cell? ⟨y, 0, none⟩ = some (.slice m' k c'))
    (hn : n ≤ 1048576) (hcap : n ≤ c) (hk : k ≤ 1048576) (hcap' : k ≤ c') (hD : EnvW w) (hR : RectsIs w.heap.size w m n P Q R S) (hR' : RectsIs w.heap.size w m' k A B C D) (hok : okR P Q R S n = true) (hok' : okR A B C D k = true) :
    Calls Tryd.prog 97 #[.int .i64 (s : Int), .pointer (some ⟨x, 0, none⟩), .pointer (some ⟨y, 0, none⟩)] w fun e w' => e = .returned (.bool (nrB (covF P Q R S n) (covF A B C D k) s)) ∧ Below w.heap.size w w' := by
  have HR := Lib.hid hR
  have HR' := Lib.hid hR'
  have HD := Lib.hid hD
  have HOK := Lib.hid hok
  have HOK' := Lib.hid hok'
  clear hR hR' hD hok hok'
  have hmix : Tryd.prog.follows .mixedOrders = true := by kernel_rfl
  go_enter Tryd.func97, Tryd.ntmps97
  go_upto_region 1 with fail
  refine (wpIn_wide (n := 9)).1 ?_
  gi_wp2
  refine regionT (S := fun w' => w'.cell? ⟨x, 0, none⟩ = some (.slice m n c) ∧ w'.cell? ⟨y, 0, none⟩ = some (.slice m' k c')) (tl := fun _ => false) hmix ?_
  have hS : w.drew.cell? ⟨x, 0, none⟩ = some (.slice m n c) ∧ w.drew.cell? ⟨y, 0, none⟩ = some (.slice m' k c') := ⟨hx, hy⟩
  refine takeT (i := 0) (.slice m n c) rfl (by kernel_rfl) (by kernel_rfl) (by kernel_rfl) (by kernel_rfl) (by kernel_rfl) (fun _ _ _ h => h) (by rfl) ?_ (fun _ => rfl) hS ?_
  · intro w' h9
    simp [go_sem, h9.1, h9.2, Act.put]
  simp only [go_sem, Act.put, List.getElem_toArray, List.getElem_cons_succ, List.getElem_cons_zero, List.setIfInBounds_toArray, List.set_cons_succ, List.set_cons_zero]
  refine takeT (i := 1) (.int .i64 (s : Int)) rfl (by kernel_rfl) (by kernel_rfl) (by kernel_rfl) (by kernel_rfl) (by kernel_rfl) (fun _ _ _ h => h) (by rfl) ?_ (fun _ => rfl) hS ?_
  · intro w' h9
    simp [go_sem, Act.put]
  simp only [go_sem, Act.put, List.getElem_toArray, List.getElem_cons_succ, List.getElem_cons_zero, List.setIfInBounds_toArray, List.set_cons_succ, List.set_cons_zero]
  refine takeT (i := 2) (.int .i64 (s : Int)) rfl (by kernel_rfl) (by kernel_rfl) (by kernel_rfl) (by kernel_rfl) (by kernel_rfl) (fun _ _ _ h => h) (by rfl) ?_ (fun _ => rfl) hS ?_
  · intro w' h9
    simp [go_sem, Act.put]
  simp only [go_sem, Act.put, List.getElem_toArray, List.getElem_cons_succ, List.getElem_cons_zero, List.setIfInBounds_toArray, List.set_cons_succ, List.set_cons_zero]
  refine takeT (i := 4) (.slice m' k c') rfl (by kernel_rfl) (by kernel_rfl) (by kernel_rfl) (by kernel_rfl) (by kernel_rfl) (fun _ _ _ h => h) (by rfl) ?_ (fun _ => rfl) hS ?_
  · intro w' h9
    simp [go_sem, h9.1, h9.2, Act.put]
  simp only [go_sem, Act.put, List.getElem_toArray, List.getElem_cons_succ, List.getElem_cons_zero, List.setIfInBounds_toArray, List.set_cons_succ, List.set_cons_zero]
  have bd : Below w.heap.size w w.drew := (Below.refl _ _).drew
  refine oneN (i := 3) (by kernel_rfl) (wpOpIn_step rfl fun K' hK' => ?_)
  rw [if_pos (by rfl)]
  refine ⟨fun _ _ => trivial, ?_⟩
  simp only [go_sem, Act.put]
  simp [go_sem, enters_of Tryd.func90 (by kernel_rfl) rfl]
  refine (callsIn_wide.2 (seeing_any m n c P Q R S s s _ hn hcap (HD.out.ext bd) (HR.out.ext bd) HOK.out hs hs)).mono ?_
  rintro r w2 ⟨⟨a2, c2, rfl, k2, o2⟩, bw2⟩
  obtain ⟨l2, hl2⟩ : ∃ l, l = canonL (seeF (covF P Q R S n) s s) := ⟨_, rfl⟩
  rw [← hl2] at k2 o2 ⊢
  have hn2 : l2.length ≤ 3280 := by rw [hl2]; exact canonL_len _
  have hov := ov_nr (A := A) (B := B) (C := C) (D := D) (k := k) hl2 HOK'.out
  have HOV := Lib.hid hov
  have B2 := Ext.trans bd bw2
  clear hl2 hov
  dsimp only
  have hS2 := And.intro (keepC B2 hx) (keepC B2 hy)
  refine hK' _ _ ⟨hS2, ?_⟩
  clear hK'
  refine oneN (i := 5) (by kernel_rfl) (wpOpIn_step rfl fun K' hK' => ?_)
  rw [if_pos (by rfl)]
  refine ⟨fun _ _ => trivial, ?_⟩
  simp only [go_sem, Act.put]
  simp [go_sem, enters_of Tryd.func48 (by kernel_rfl) rfl]
  refine (callsIn_wide.2 (implOverlaps_any merge8_any a2 l2.length c2 (pA l2) (pB l2) (pC l2) (pD l2) m' k c' A B C D _ (by omega) k2 hk hcap' (HD.out.ext B2) o2.rects (HR'.out.ext B2))).mono ?_
  rintro r w3 ⟨rfl, bw3⟩
  rw [HOV.out]
  have B3 := Ext.trans B2 bw3
  dsimp only
  have hS3 := And.intro (keepC B3 hx) (keepC B3 hy)
  refine hK' _ _ ⟨hS3, ?_⟩
  clear hK'
  refine oneN (i := 6) (by kernel_rfl) (wpOpIn_step rfl fun K' hK' => ?_)
  rw [if_pos (by rfl)]
  refine ⟨fun _ _ => trivial, ?_⟩
  simp only [go_sem, Act.put]
  simp [go_sem]
  refine hK' _ _ ⟨hS3, ?_⟩
  clear hK'
  refine doneT (by kernel_rfl) ?_ _
  gi_wp2
  go_wp2_with fail
  go_ret
  exact ⟨rfl, B3⟩
/-- The least size that a search finds. -/
structure FoundS (b : Nat → Bool) (r : Nat) : Prop where
  le : r ≤ 79
  before : ∀ s, s < r → b s = false
  at_ : r = 79 ∨ b r = true
theorem FoundS.uniq {b : Nat → Bool} {r t : Nat} (h : FoundS b r) (k : FoundS b t) : r = t := by
  rcases Nat.lt_trichotomy r t with e | e | e
  · rcases h.at_ with a | a
    · have := k.le; omega
    · rw [k.before r e] at a; cases a
  · exact e
  · rcases k.at_ with a | a
    · have := h.le; omega
    · rw [h.before t e] at a; cases a
set_option maxRecDepth 100000 in
set_option maxHeartbeats 4000000 in
theorem search_any (x y : Nat) (m : Option Addr) (n c : Nat) (P Q R S : Nat → Int) (m' : Option Addr) (k c' : Nat) (A B C D : Nat → Int) (w : World) (hx : w.cell? ⟨x, 0, none⟩ = some (.slice m n c)) (hy : w.cell? ⟨y, 0, none⟩ = some (.slice m' k c'))
    (hn : n ≤ 1048576) (hcap : n ≤ c) (hk : k ≤ 1048576) (hcap' : k ≤ c') (hD : EnvW w) (hR : RectsIs w.heap.size w m n P Q R S) (hR' : RectsIs w.heap.size w m' k A B C D) (hok : okR P Q R S n = true) (hok' : okR A B C D k = true) :
    Calls Tryd.prog 96 #[.int .i64 79, .func (.func 97) #[] #[.pointer (some ⟨x, 0, none⟩), .pointer (some ⟨y, 0, none⟩)]] w fun e w' => (∃ r : Nat, e = .returned (.int .i64 (r : Int)) ∧ FoundS (nrB (covF P Q R S n) (covF A B C D k)) r) ∧ Below w.heap.size w w' := by
  have HR := Lib.hid hR
  have HR' := Lib.hid hR'
  have HD := Lib.hid hD
  have HOK := Lib.hid hok
  have HOK' := Lib.hid hok'
  have HX := Lib.hid hx
  have HY := Lib.hid hy
  clear hR hR' hD hok hok' hx hy
  obtain ⟨b, hb⟩ : ∃ b, b = nrB (covF P Q R S n) (covF A B C D k) := ⟨_, rfl⟩
  have hmono : ∀ s t, s ≤ t → b s = true → b t = true := fun s t h e => by rw [hb] at e ⊢; exact nrB_mono h e
  rw [← hb]
  have HB := Lib.hid hb
  have HM := Lib.hid hmono
  clear hb hmono
  have hent := enters_of Tryd.func97 (by kernel_rfl) rfl
  go_enter Tryd.func96, Tryd.ntmps96
  go_wp2_with fail
  go_loopw [5, 6] (fun s5 s6 wr => ∃ i j : Nat, i ≤ j ∧ j ≤ 79 ∧ s5 = .int .i64 i ∧ s6 = .int .i64 j ∧ Hid (Below w.heap.size w wr) ∧ Hid ((∀ s, s < i → b s = false) ∧ (j = 79 ∨ b j = true))) (fun s5 s6 _ => (intOf s6 - intOf s5).toNat)
  case atStart => exact ⟨0, 79, by omega, by omega, rfl, rfl, Lib.hid (Below.refl _ _), Lib.hid ⟨fun s hs => by omega, .inl rfl⟩⟩
  case round =>
    obtain ⟨i, j, hij, hj, rfl, rfl, hW, HIJ⟩ := hrel
    by_cases hlt : i < j
    · have q1 : (i : Int) < (j : Int) := by omega
      obtain ⟨h, hh⟩ : ∃ h, h = (i + j) / 2 := ⟨_, rfl⟩
      have hhi : i ≤ h := by omega
      have hhj : h < j := by omega
      have hw1 : IntKind.i64.wrap ((i : Int) + (j : Int)) = (i : Int) + (j : Int) := by rw [IntKind.wrap_i64]; omega
      have hw2 : IntKind.u64.wrap ((i : Int) + (j : Int)) = (i : Int) + (j : Int) := by rw [IntKind.wrap_u64]; omega
      have hw3 : ((i : Int) + (j : Int)) / 2 = (h : Int) := by omega
      have hw4 : IntKind.i64.wrap (h : Int) = (h : Int) := by rw [IntKind.wrap_i64]; omega
      clear hh
      go_wp2_with fail
      refine (rdClosure_any x y h (by omega) m n c P Q R S m' k c' A B C D _ (keepC hW.out HX.out) (keepC hW.out HY.out) hn hcap hk hcap' (HD.out.ext hW.out) (HR.out.ext hW.out) (HR'.out.ext hW.out) HOK.out HOK'.out).mono ?_
      rintro e w2 ⟨rfl, bw2⟩
      rw [← HB.out]
      have hW := Lib.hid (Ext.trans hW.out bw2)
      clear bw2
      cases hbh : b h with
      | false =>
        have HN : Hid ((∀ s, s < h + 1 → b s = false) ∧ (j = 79 ∨ b j = true)) := Lib.hid ⟨fun s hs => by
          cases e : b s with
          | false => rfl
          | true => exact absurd (HM.out s h (by omega) e) (by rw [hbh]; simp), HIJ.out.2⟩
        clear hbh
        go_wp2_with fail
        go_roundw
        case rel => exact ⟨h + 1, j, by omega, hj, by go_num, rfl, hW, HN⟩
        case measure => simp [intOf]; omega
      | true =>
        have HN : Hid ((∀ s, s < i → b s = false) ∧ (h = 79 ∨ b h = true)) := Lib.hid ⟨HIJ.out.1, .inr hbh⟩
        clear hbh
        go_wp2_with fail
        go_roundw
        case rel => exact ⟨i, h, hhi, by omega, rfl, rfl, hW, HN⟩
        case measure => simp [intOf]; omega
    · have q1 : ¬ (i : Int) < (j : Int) := by omega
      obtain rfl : i = j := by omega
      go_wp2_with fail
      go_ret
      exact ⟨⟨i, rfl, ⟨hj, HIJ.out.1, HIJ.out.2⟩⟩, hW.out⟩
/-- What RegionDistance answers: -1 or the least size. -/
def rdOK (P Q R S : Nat → Int) (n : Nat) (A B C D : Nat → Int) (k : Nat) : Bool := okR P Q R S n && okR A B C D k && (decide (0 < n) && decide (0 < k))
def rdIs (P Q R S : Nat → Int) (n : Nat) (A B C D : Nat → Int) (k : Nat) (v : Int) : Prop := if rdOK P Q R S n A B C D k = true then ∃ r : Nat, v = (r : Int) ∧ FoundS (nrB (covF P Q R S n) (covF A B C D k)) r else v = -1
theorem rdIs_uniq {P Q R S : Nat → Int} {n : Nat} {A B C D : Nat → Int} {k : Nat} {v u : Int} (h : rdIs P Q R S n A B C D k v) (h' : rdIs P Q R S n A B C D k u) : v = u := by
  unfold rdIs at h h'
  split at h
  · rename_i e
    rw [if_pos e] at h'
    obtain ⟨r, rfl, f1⟩ := h
    obtain ⟨t, rfl, f2⟩ := h'
    rw [f1.uniq f2]
  · rename_i e
    rw [if_neg e] at h'
    rw [h, h']
theorem rdIs_no {P Q R S : Nat → Int} {n : Nat} {A B C D : Nat → Int} {k : Nat} (h : rdOK P Q R S n A B C D k = false) : rdIs P Q R S n A B C D k (-1) := by unfold rdIs; rw [if_neg (by simp [h])]
theorem rdIs_yes {P Q R S : Nat → Int} {n : Nat} {A B C D : Nat → Int} {k : Nat} {r : Nat} (h : rdOK P Q R S n A B C D k = true) (hf : FoundS (nrB (covF P Q R S n) (covF A B C D k)) r) : rdIs P Q R S n A B C D k (r : Int) := by unfold rdIs; rw [if_pos h]; exact ⟨r, rfl, hf⟩
set_option maxRecDepth 100000 in
set_option maxHeartbeats 4000000 in
theorem implRegionDistance_any (m : Option Addr) (n c : Nat) (P Q R S : Nat → Int) (m' : Option Addr) (k c' : Nat) (A B C D : Nat → Int) (w : World)
    (hn : n ≤ 1048576) (hcap : n ≤ c) (hk : k ≤ 1048576) (hcap' : k ≤ c') (hD : EnvW w) (hR : RectsIs w.heap.size w m n P Q R S) (hR' : RectsIs w.heap.size w m' k A B C D) :
    Calls Tryd.prog 47 #[.slice m n c, .slice m' k c'] w fun e w' => (∃ v : Int, e = .returned (.int .i64 v) ∧ rdIs P Q R S n A B C D k v) ∧ Below w.heap.size w w' := by
  have HR := Lib.hid hR
  have HR' := Lib.hid hR'
  have HD := Lib.hid hD
  clear hR hR' hD
  obtain ⟨wS, hwS⟩ : ∃ wS, wS = (w.alloc (.cells #[.slice m n c] 24)).alloc (.cells #[.slice m' k c'] 24) := ⟨_, rfl⟩
  have bS : Below w.heap.size w wS := by rw [hwS]; (repeat (first | (with_reducible exact Below.refl _ _) | (with_reducible refine Ext.drewN ?_ _) | (with_reducible refine Below.drew ?_) | (with_reducible refine Ext.alloc ?_ _) | (with_reducible refine Ext.setCell ?_ (by simp; try omega) _) | (with_reducible refine Ext.trans ?_ (by assumption)) | (with_reducible assumption) | exact Below.refl _ _))
  have cx : wS.cell? ⟨w.heap.size, 0, none⟩ = some (.slice m n c) := by rw [hwS]; simp [go_sem]
  have cy : wS.cell? ⟨w.heap.size + 1, 0, none⟩ = some (.slice m' k c') := by rw [hwS]; simp [go_sem]
  have hmf : ∀ (fn : Fn) (first cap : Array Value) (w : World), (Instr.makeFunc fn first cap).run Tryd.prog w = .ok (.func fn first cap) w := fun _ _ _ _ => rfl
  cases hok : okR P Q R S n with
  | false =>
    have HN := Lib.hid (rdIs_no (P := P) (Q := Q) (R := R) (S := S) (n := n) (A := A) (B := B) (C := C) (D := D) (k := k) (by unfold rdOK; rw [hok]; simp))
    go_enter Tryd.func47, Tryd.ntmps47
    go_wp2_with fail
    rw [← hwS]
    clear hwS
    refine (isRegion_any m n c P Q R S _ hn hcap (HD.out.ext bS) (HR.out.ext bS)).mono ?_
    rintro e w1 ⟨rfl, bw1⟩
    rw [hok]
    have dx := keepC bw1 cx
    have dy := keepC bw1 cy
    have B1 := Ext.trans bS bw1
    clear bw1 bS cx cy
    go_wp2_with fail
    go_ret
    exact ⟨⟨-1, rfl, HN.out⟩, B1⟩
  | true =>
  cases hok' : okR A B C D k with
  | false =>
    have HN := Lib.hid (rdIs_no (P := P) (Q := Q) (R := R) (S := S) (n := n) (A := A) (B := B) (C := C) (D := D) (k := k) (by unfold rdOK; rw [hok, hok']; simp))
    go_enter Tryd.func47, Tryd.ntmps47
    go_wp2_with fail
    rw [← hwS]
    clear hwS
    refine (isRegion_any m n c P Q R S _ hn hcap (HD.out.ext bS) (HR.out.ext bS)).mono ?_
    rintro e w1 ⟨rfl, bw1⟩
    rw [hok]
    have dx := keepC bw1 cx
    have dy := keepC bw1 cy
    have B1 := Ext.trans bS bw1
    clear bw1 bS cx cy
    go_wp2_with fail
    refine (isRegion_any m' k c' A B C D _ hk hcap' (HD.out.ext B1) (HR'.out.ext B1)).mono ?_
    rintro e w2 ⟨rfl, bw2⟩
    rw [hok']
    have ex := keepC bw2 dx
    have ey := keepC bw2 dy
    have B2 := Ext.trans B1 bw2
    clear bw2 dx dy B1
    go_wp2_with fail
    go_ret
    exact ⟨⟨-1, rfl, HN.out⟩, B2⟩
  | true =>
  by_cases hn0 : n = 0
  · have z0 : ((n : Int) == 0) = true := by simp [hn0]
    have HN := Lib.hid (rdIs_no (P := P) (Q := Q) (R := R) (S := S) (n := n) (A := A) (B := B) (C := C) (D := D) (k := k) (by unfold rdOK; rw [decide_eq_false (by omega : ¬ 0 < n)]; simp))
    clear hn0
    go_enter Tryd.func47, Tryd.ntmps47
    go_wp2_with fail
    rw [← hwS]
    clear hwS
    refine (isRegion_any m n c P Q R S _ hn hcap (HD.out.ext bS) (HR.out.ext bS)).mono ?_
    rintro e w1 ⟨rfl, bw1⟩
    rw [hok]
    have dx := keepC bw1 cx
    have dy := keepC bw1 cy
    have B1 := Ext.trans bS bw1
    clear bw1 bS cx cy
    go_wp2_with fail
    refine (isRegion_any m' k c' A B C D _ hk hcap' (HD.out.ext B1) (HR'.out.ext B1)).mono ?_
    rintro e w2 ⟨rfl, bw2⟩
    rw [hok']
    have ex := keepC bw2 dx
    have ey := keepC bw2 dy
    have B2 := Ext.trans B1 bw2
    clear bw2 dx dy B1
    go_wp2_with fail
    go_ret
    exact ⟨⟨-1, rfl, HN.out⟩, B2⟩
  by_cases hk0 : k = 0
  · have z0 : ((n : Int) == 0) = false := by simp [hn0]
    have z1 : ((k : Int) == 0) = true := by simp [hk0]
    have HN := Lib.hid (rdIs_no (P := P) (Q := Q) (R := R) (S := S) (n := n) (A := A) (B := B) (C := C) (D := D) (k := k) (by unfold rdOK; rw [decide_eq_false (by omega : ¬ 0 < k)]; simp))
    clear hk0
    go_enter Tryd.func47, Tryd.ntmps47
    go_wp2_with fail
    rw [← hwS]
    clear hwS
    refine (isRegion_any m n c P Q R S _ hn hcap (HD.out.ext bS) (HR.out.ext bS)).mono ?_
    rintro e w1 ⟨rfl, bw1⟩
    rw [hok]
    have dx := keepC bw1 cx
    have dy := keepC bw1 cy
    have B1 := Ext.trans bS bw1
    clear bw1 bS cx cy
    go_wp2_with fail
    refine (isRegion_any m' k c' A B C D _ hk hcap' (HD.out.ext B1) (HR'.out.ext B1)).mono ?_
    rintro e w2 ⟨rfl, bw2⟩
    rw [hok']
    have ex := keepC bw2 dx
    have ey := keepC bw2 dy
    have B2 := Ext.trans B1 bw2
    clear bw2 dx dy B1
    go_wp2_with fail
    go_ret
    exact ⟨⟨-1, rfl, HN.out⟩, B2⟩
  have z0 : ((n : Int) == 0) = false := by simp [hn0]
  have z1 : ((k : Int) == 0) = false := by simp [hk0]
  have HY : Hid (rdOK P Q R S n A B C D k = true) := Lib.hid (by unfold rdOK; rw [hok, hok', decide_eq_true (by omega : 0 < n), decide_eq_true (by omega : 0 < k)]; rfl)
  have HOK := Lib.hid hok
  have HOK' := Lib.hid hok'
  go_enter Tryd.func47, Tryd.ntmps47
  go_wp2_with fail
  rw [← hwS]
  clear hwS
  refine (isRegion_any m n c P Q R S _ hn hcap (HD.out.ext bS) (HR.out.ext bS)).mono ?_
  rintro e w1 ⟨rfl, bw1⟩
  rw [hok]
  have dx := keepC bw1 cx
  have dy := keepC bw1 cy
  have B1 := Ext.trans bS bw1
  clear bw1 bS cx cy
  go_wp2_with fail
  refine (isRegion_any m' k c' A B C D _ hk hcap' (HD.out.ext B1) (HR'.out.ext B1)).mono ?_
  rintro e w2 ⟨rfl, bw2⟩
  rw [hok']
  have ex := keepC bw2 dx
  have ey := keepC bw2 dy
  have B2 := Ext.trans B1 bw2
  clear bw2 dx dy B1
  go_wp2_with fail
  refine (search_any w.heap.size (w.heap.size + 1) m n c P Q R S m' k c' A B C D _ ex ey hn hcap hk hcap' (HD.out.ext B2) (HR.out.ext B2) (HR'.out.ext B2) HOK.out HOK'.out).mono ?_
  rintro e w3 ⟨⟨r, rfl, hf⟩, bw3⟩
  have HF := Lib.hid hf
  have hle := hf.le
  have hw9 : IntKind.i64.wrap (r : Int) = (r : Int) := by rw [IntKind.wrap_i64]; omega
  have B3 := Ext.trans B2 bw3
  clear hf
  go_wp2_with fail
  go_ret
  exact ⟨⟨r, rfl, rdIs_yes HY.out HF.out⟩, B3⟩
end Go.Proofs.YtgccnongfdbalaaDoor

namespace Go.Proofs.YtgccnongfdbalaaDoor
open Go.RowKit
set_option linter.unusedVariables false
set_option linter.unusedSimpArgs false

def pdI (P Q R S A B C D : Nat → Int) (i j : Nat) : Int := max (max 0 (1 - (lo2 (R i) (C j) - hi2 (P i) (A j)))) (max 0 (1 - (lo2 (S i) (D j) - hi2 (Q i) (B j))))
def bK (d : Nat → Nat → Int) (i : Nat) (b : Int) : Nat → Int
  | 0 => b
  | j + 1 => min (bK d i b j) (d i j)
def bI (d : Nat → Nat → Int) (N : Nat) : Nat → Int
  | 0 => 80
  | i + 1 => bK d i (bI d N i) N
theorem rv_bd {a b c d : Int} (h : rvB a b c d = true) : -40 ≤ a ∧ a < c ∧ c ≤ 40 ∧ -40 ≤ b ∧ b < d ∧ d ≤ 40 := of_decide_eq_true h
set_option maxRecDepth 100000 in
set_option maxHeartbeats 16000000 in
theorem specRd_yes (m : Option Addr) (n cap : Nat) (P Q R S : Nat → Int) (m' : Option Addr) (k cap' : Nat) (A B C D : Nat → Int) (w : World) (hn : 0 < n ∧ n ≤ 1048576) (hk : 0 < k ∧ k ≤ 1048576) (hR : RectsIs w.heap.size w m n P Q R S) (hR' : RectsIs w.heap.size w m' k A B C D)
    (hok : okR P Q R S n = true) (hok' : okR A B C D k = true) :
    Calls Tryd.prog 49 #[.slice m n cap, .slice m' k cap'] w fun e w' => e = .returned (.int .i64 (bI (pdI P Q R S A B C D) k n)) ∧ Below w.heap.size w w' := by
  have HR := Lib.hid hR
  have HR' := Lib.hid hR'
  have HV := Lib.hid (okR_all hok)
  have HV' := Lib.hid (okR_all hok')
  have z0 : ((n : Int) == 0) = false := by simp; omega
  have z1 : ((k : Int) == 0) = false := by simp; omega
  have hmix : Tryd.prog.follows .mixedOrders = true := by kernel_rfl
  go_enter Tryd.func49, Tryd.ntmps49
  go_wp2_with fail
  refine (l04Both_any m n cap P Q R S m' k cap' A B C D _ hn.2 hk.2 hR hR').mono ?_
  rintro e w1 ⟨rfl, bw1⟩
  rw [hok, hok']
  have B1 := Lib.hid bw1
  clear hR hR' bw1 hok hok'
  go_wp2_with fail
  go_loopw [5, 6] (fun s5 s6 wr => ∃ (i : Nat) (v : Int), i ≤ n ∧ s6 = .int .i64 i ∧ s5 = .int .i64 v ∧ Hid (v = bI (pdI P Q R S A B C D) k i) ∧ Hid (Below w.heap.size w wr)) (fun _ s6 _ => n - (intOf s6).toNat)
  case atStart => exact ⟨0, 80, by omega, rfl, rfl, Lib.hid rfl, B1⟩
  case round =>
    obtain ⟨i, v, hi, rfl, rfl, hv, HW⟩ := hrel
    by_cases hlt : i < n
    · have q1 : (i : Int) < (n : Int) := by omega
      have q2 : (0 : Int) ≤ (i : Int) := by omega
      go_wp2_with fail
      go_loopw [5, 7] (fun s5 s7 wx => ∃ (j : Nat) (v : Int), j ≤ k ∧ s7 = .int .i64 j ∧ s5 = .int .i64 v ∧ Hid (v = bK (pdI P Q R S A B C D) i (bI (pdI P Q R S A B C D) k i) j) ∧ Hid (Below w.heap.size w wx)) (fun _ s7 _ => k - (intOf s7).toNat)
      case atStart => exact ⟨0, v, by omega, rfl, rfl, hv, HW⟩
      case round =>
        obtain ⟨j, v, hj, rfl, rfl, hv, HX⟩ := hrel
        by_cases hjl : j < k
        · have q3 : (j : Int) < (k : Int) := by omega
          have q4 : (0 : Int) ≤ (j : Int) := by omega
          obtain ⟨b1, o1, rfl, hb1, e0, e1, e2, e3⟩ := HR.out.ext HX.out i hlt
          obtain ⟨b2, o2, rfl, hb2, e4, e5, e6, e7⟩ := HR'.out.ext HX.out j hjl
          have g1 := rv_bd (HV.out i hlt)
          have g2 := rv_bd (HV'.out j hjl)
          obtain ⟨X, hX⟩ : ∃ X, X = lo2 (R i) (C j) - hi2 (P i) (A j) := ⟨_, rfl⟩
          obtain ⟨Y, hY⟩ : ∃ Y, Y = lo2 (S i) (D j) - hi2 (Q i) (B j) := ⟨_, rfl⟩
          have bx := lo2_bd (R i) (C j)
          have by_ := lo2_bd (S i) (D j)
          have cx := hi2_bd (P i) (A j)
          have cy := hi2_bd (Q i) (B j)
          have hwX : IntKind.i64.wrap (1 - X) = 1 - X := by rw [IntKind.wrap_i64]; omega
          have hwY : IntKind.i64.wrap (1 - Y) = 1 - Y := by rw [IntKind.wrap_i64]; omega
          go_upto_region 10 with fail
          refine (wpIn_wide (n := 9)).1 ?_
          gi_wp2
          refine regionT (S := fun w' => w'.cell? ⟨b1, o1 + i * 4, none⟩ = some (.int .i64 (P i)) ∧ w'.cell? ⟨b1, o1 + i * 4 + 1, none⟩ = some (.int .i64 (Q i)) ∧ w'.cell? ⟨b1, o1 + i * 4 + 2, none⟩ = some (.int .i64 (R i)) ∧ w'.cell? ⟨b1, o1 + i * 4 + 3, none⟩ = some (.int .i64 (S i)) ∧ w'.cell? ⟨b2, o2 + j * 4, none⟩ = some (.int .i64 (A j)) ∧ w'.cell? ⟨b2, o2 + j * 4 + 1, none⟩ = some (.int .i64 (B j)) ∧ w'.cell? ⟨b2, o2 + j * 4 + 2, none⟩ = some (.int .i64 (C j)) ∧ w'.cell? ⟨b2, o2 + j * 4 + 3, none⟩ = some (.int .i64 (D j))) (tl := fun _ => false) hmix ?_
          have hS : wr.drew.cell? ⟨b1, o1 + i * 4, none⟩ = some (.int .i64 (P i)) ∧ wr.drew.cell? ⟨b1, o1 + i * 4 + 1, none⟩ = some (.int .i64 (Q i)) ∧ wr.drew.cell? ⟨b1, o1 + i * 4 + 2, none⟩ = some (.int .i64 (R i)) ∧ wr.drew.cell? ⟨b1, o1 + i * 4 + 3, none⟩ = some (.int .i64 (S i)) ∧ wr.drew.cell? ⟨b2, o2 + j * 4, none⟩ = some (.int .i64 (A j)) ∧ wr.drew.cell? ⟨b2, o2 + j * 4 + 1, none⟩ = some (.int .i64 (B j)) ∧ wr.drew.cell? ⟨b2, o2 + j * 4 + 2, none⟩ = some (.int .i64 (C j)) ∧ wr.drew.cell? ⟨b2, o2 + j * 4 + 3, none⟩ = some (.int .i64 (D j)) := ⟨e0, e1, e2, e3, e4, e5, e6, e7⟩
          refine takeT (i := 0) (.slice (some ⟨b1, o1, none⟩) n cap) rfl (by kernel_rfl) (by kernel_rfl) (by kernel_rfl) (by kernel_rfl) (by kernel_rfl) (fun _ _ _ h => h) (by rfl) ?_ (fun _ => rfl) hS ?_
          · intro w' h9
            obtain ⟨y0, y1, y2, y3, y4, y5, y6, y7⟩ := h9
            simp [go_sem, Act.put, y0, y1, y2, y3, y4, y5, y6, y7, q1, q2, q3, q4]
          simp only [go_sem, Act.put, List.getElem_toArray, List.getElem_cons_succ, List.getElem_cons_zero, List.setIfInBounds_toArray, List.set_cons_succ, List.set_cons_zero]
          refine takeT (i := 1) (.int .i64 (i : Int)) rfl (by kernel_rfl) (by kernel_rfl) (by kernel_rfl) (by kernel_rfl) (by kernel_rfl) (fun _ _ _ h => h) (by rfl) ?_ (fun _ => rfl) hS ?_
          · intro w' h9
            obtain ⟨y0, y1, y2, y3, y4, y5, y6, y7⟩ := h9
            simp [go_sem, Act.put, y0, y1, y2, y3, y4, y5, y6, y7, q1, q2, q3, q4]
          simp only [go_sem, Act.put, List.getElem_toArray, List.getElem_cons_succ, List.getElem_cons_zero, List.setIfInBounds_toArray, List.set_cons_succ, List.set_cons_zero]
          refine takeT (i := 2) (.pointer (some ⟨b1, o1 + i * 4, none⟩)) rfl (by kernel_rfl) (by kernel_rfl) (by kernel_rfl) (by kernel_rfl) (by kernel_rfl) (fun _ _ _ h => h) (by rfl) ?_ (fun _ => rfl) hS ?_
          · intro w' h9
            obtain ⟨y0, y1, y2, y3, y4, y5, y6, y7⟩ := h9
            simp [go_sem, Act.put, y0, y1, y2, y3, y4, y5, y6, y7, q1, q2, q3, q4]
          simp only [go_sem, Act.put, List.getElem_toArray, List.getElem_cons_succ, List.getElem_cons_zero, List.setIfInBounds_toArray, List.set_cons_succ, List.set_cons_zero]
          refine takeT (i := 3) (.pointer (some ⟨b1, o1 + i * 4, none⟩)) rfl (by kernel_rfl) (by kernel_rfl) (by kernel_rfl) (by kernel_rfl) (by kernel_rfl) (fun _ _ _ h => h) (by rfl) ?_ (fun _ => rfl) hS ?_
          · intro w' h9
            obtain ⟨y0, y1, y2, y3, y4, y5, y6, y7⟩ := h9
            simp [go_sem, Act.put, y0, y1, y2, y3, y4, y5, y6, y7, q1, q2, q3, q4]
          simp only [go_sem, Act.put, List.getElem_toArray, List.getElem_cons_succ, List.getElem_cons_zero, List.setIfInBounds_toArray, List.set_cons_succ, List.set_cons_zero]
          refine takeT (i := 4) (.int .i64 (P i)) rfl (by kernel_rfl) (by kernel_rfl) (by kernel_rfl) (by kernel_rfl) (by kernel_rfl) (fun _ _ _ h => h) (by rfl) ?_ (fun _ => rfl) hS ?_
          · intro w' h9
            obtain ⟨y0, y1, y2, y3, y4, y5, y6, y7⟩ := h9
            simp [go_sem, Act.put, y0, y1, y2, y3, y4, y5, y6, y7, q1, q2, q3, q4]
          simp only [go_sem, Act.put, List.getElem_toArray, List.getElem_cons_succ, List.getElem_cons_zero, List.setIfInBounds_toArray, List.set_cons_succ, List.set_cons_zero]
          refine takeT (i := 5) (.slice (some ⟨b1, o1, none⟩) n cap) rfl (by kernel_rfl) (by kernel_rfl) (by kernel_rfl) (by kernel_rfl) (by kernel_rfl) (fun _ _ _ h => h) (by rfl) ?_ (fun _ => rfl) hS ?_
          · intro w' h9
            obtain ⟨y0, y1, y2, y3, y4, y5, y6, y7⟩ := h9
            simp [go_sem, Act.put, y0, y1, y2, y3, y4, y5, y6, y7, q1, q2, q3, q4]
          simp only [go_sem, Act.put, List.getElem_toArray, List.getElem_cons_succ, List.getElem_cons_zero, List.setIfInBounds_toArray, List.set_cons_succ, List.set_cons_zero]
          refine takeT (i := 6) (.int .i64 (i : Int)) rfl (by kernel_rfl) (by kernel_rfl) (by kernel_rfl) (by kernel_rfl) (by kernel_rfl) (fun _ _ _ h => h) (by rfl) ?_ (fun _ => rfl) hS ?_
          · intro w' h9
            obtain ⟨y0, y1, y2, y3, y4, y5, y6, y7⟩ := h9
            simp [go_sem, Act.put, y0, y1, y2, y3, y4, y5, y6, y7, q1, q2, q3, q4]
          simp only [go_sem, Act.put, List.getElem_toArray, List.getElem_cons_succ, List.getElem_cons_zero, List.setIfInBounds_toArray, List.set_cons_succ, List.set_cons_zero]
          refine takeT (i := 7) (.pointer (some ⟨b1, o1 + i * 4, none⟩)) rfl (by kernel_rfl) (by kernel_rfl) (by kernel_rfl) (by kernel_rfl) (by kernel_rfl) (fun _ _ _ h => h) (by rfl) ?_ (fun _ => rfl) hS ?_
          · intro w' h9
            obtain ⟨y0, y1, y2, y3, y4, y5, y6, y7⟩ := h9
            simp [go_sem, Act.put, y0, y1, y2, y3, y4, y5, y6, y7, q1, q2, q3, q4]
          simp only [go_sem, Act.put, List.getElem_toArray, List.getElem_cons_succ, List.getElem_cons_zero, List.setIfInBounds_toArray, List.set_cons_succ, List.set_cons_zero]
          refine takeT (i := 8) (.pointer (some ⟨b1, o1 + i * 4 + 2, none⟩)) rfl (by kernel_rfl) (by kernel_rfl) (by kernel_rfl) (by kernel_rfl) (by kernel_rfl) (fun _ _ _ h => h) (by rfl) ?_ (fun _ => rfl) hS ?_
          · intro w' h9
            obtain ⟨y0, y1, y2, y3, y4, y5, y6, y7⟩ := h9
            simp [go_sem, Act.put, y0, y1, y2, y3, y4, y5, y6, y7, q1, q2, q3, q4]
          simp only [go_sem, Act.put, List.getElem_toArray, List.getElem_cons_succ, List.getElem_cons_zero, List.setIfInBounds_toArray, List.set_cons_succ, List.set_cons_zero]
          refine takeT (i := 9) (.int .i64 (R i)) rfl (by kernel_rfl) (by kernel_rfl) (by kernel_rfl) (by kernel_rfl) (by kernel_rfl) (fun _ _ _ h => h) (by rfl) ?_ (fun _ => rfl) hS ?_
          · intro w' h9
            obtain ⟨y0, y1, y2, y3, y4, y5, y6, y7⟩ := h9
            simp [go_sem, Act.put, y0, y1, y2, y3, y4, y5, y6, y7, q1, q2, q3, q4]
          simp only [go_sem, Act.put, List.getElem_toArray, List.getElem_cons_succ, List.getElem_cons_zero, List.setIfInBounds_toArray, List.set_cons_succ, List.set_cons_zero]
          refine takeT (i := 10) (.slice (some ⟨b2, o2, none⟩) k cap') rfl (by kernel_rfl) (by kernel_rfl) (by kernel_rfl) (by kernel_rfl) (by kernel_rfl) (fun _ _ _ h => h) (by rfl) ?_ (fun _ => rfl) hS ?_
          · intro w' h9
            obtain ⟨y0, y1, y2, y3, y4, y5, y6, y7⟩ := h9
            simp [go_sem, Act.put, y0, y1, y2, y3, y4, y5, y6, y7, q1, q2, q3, q4]
          simp only [go_sem, Act.put, List.getElem_toArray, List.getElem_cons_succ, List.getElem_cons_zero, List.setIfInBounds_toArray, List.set_cons_succ, List.set_cons_zero]
          refine takeT (i := 11) (.int .i64 (j : Int)) rfl (by kernel_rfl) (by kernel_rfl) (by kernel_rfl) (by kernel_rfl) (by kernel_rfl) (fun _ _ _ h => h) (by rfl) ?_ (fun _ => rfl) hS ?_
          · intro w' h9
            obtain ⟨y0, y1, y2, y3, y4, y5, y6, y7⟩ := h9
            simp [go_sem, Act.put, y0, y1, y2, y3, y4, y5, y6, y7, q1, q2, q3, q4]
          simp only [go_sem, Act.put, List.getElem_toArray, List.getElem_cons_succ, List.getElem_cons_zero, List.setIfInBounds_toArray, List.set_cons_succ, List.set_cons_zero]
          refine takeT (i := 12) (.pointer (some ⟨b2, o2 + j * 4, none⟩)) rfl (by kernel_rfl) (by kernel_rfl) (by kernel_rfl) (by kernel_rfl) (by kernel_rfl) (fun _ _ _ h => h) (by rfl) ?_ (fun _ => rfl) hS ?_
          · intro w' h9
            obtain ⟨y0, y1, y2, y3, y4, y5, y6, y7⟩ := h9
            simp [go_sem, Act.put, y0, y1, y2, y3, y4, y5, y6, y7, q1, q2, q3, q4]
          simp only [go_sem, Act.put, List.getElem_toArray, List.getElem_cons_succ, List.getElem_cons_zero, List.setIfInBounds_toArray, List.set_cons_succ, List.set_cons_zero]
          refine takeT (i := 13) (.pointer (some ⟨b2, o2 + j * 4, none⟩)) rfl (by kernel_rfl) (by kernel_rfl) (by kernel_rfl) (by kernel_rfl) (by kernel_rfl) (fun _ _ _ h => h) (by rfl) ?_ (fun _ => rfl) hS ?_
          · intro w' h9
            obtain ⟨y0, y1, y2, y3, y4, y5, y6, y7⟩ := h9
            simp [go_sem, Act.put, y0, y1, y2, y3, y4, y5, y6, y7, q1, q2, q3, q4]
          simp only [go_sem, Act.put, List.getElem_toArray, List.getElem_cons_succ, List.getElem_cons_zero, List.setIfInBounds_toArray, List.set_cons_succ, List.set_cons_zero]
          refine takeT (i := 14) (.int .i64 (A j)) rfl (by kernel_rfl) (by kernel_rfl) (by kernel_rfl) (by kernel_rfl) (by kernel_rfl) (fun _ _ _ h => h) (by rfl) ?_ (fun _ => rfl) hS ?_
          · intro w' h9
            obtain ⟨y0, y1, y2, y3, y4, y5, y6, y7⟩ := h9
            simp [go_sem, Act.put, y0, y1, y2, y3, y4, y5, y6, y7, q1, q2, q3, q4]
          simp only [go_sem, Act.put, List.getElem_toArray, List.getElem_cons_succ, List.getElem_cons_zero, List.setIfInBounds_toArray, List.set_cons_succ, List.set_cons_zero]
          refine takeT (i := 15) (.slice (some ⟨b2, o2, none⟩) k cap') rfl (by kernel_rfl) (by kernel_rfl) (by kernel_rfl) (by kernel_rfl) (by kernel_rfl) (fun _ _ _ h => h) (by rfl) ?_ (fun _ => rfl) hS ?_
          · intro w' h9
            obtain ⟨y0, y1, y2, y3, y4, y5, y6, y7⟩ := h9
            simp [go_sem, Act.put, y0, y1, y2, y3, y4, y5, y6, y7, q1, q2, q3, q4]
          simp only [go_sem, Act.put, List.getElem_toArray, List.getElem_cons_succ, List.getElem_cons_zero, List.setIfInBounds_toArray, List.set_cons_succ, List.set_cons_zero]
          refine takeT (i := 16) (.int .i64 (j : Int)) rfl (by kernel_rfl) (by kernel_rfl) (by kernel_rfl) (by kernel_rfl) (by kernel_rfl) (fun _ _ _ h => h) (by rfl) ?_ (fun _ => rfl) hS ?_
          · intro w' h9
            obtain ⟨y0, y1, y2, y3, y4, y5, y6, y7⟩ := h9
            simp [go_sem, Act.put, y0, y1, y2, y3, y4, y5, y6, y7, q1, q2, q3, q4]
          simp only [go_sem, Act.put, List.getElem_toArray, List.getElem_cons_succ, List.getElem_cons_zero, List.setIfInBounds_toArray, List.set_cons_succ, List.set_cons_zero]
          refine takeT (i := 17) (.pointer (some ⟨b2, o2 + j * 4, none⟩)) rfl (by kernel_rfl) (by kernel_rfl) (by kernel_rfl) (by kernel_rfl) (by kernel_rfl) (fun _ _ _ h => h) (by rfl) ?_ (fun _ => rfl) hS ?_
          · intro w' h9
            obtain ⟨y0, y1, y2, y3, y4, y5, y6, y7⟩ := h9
            simp [go_sem, Act.put, y0, y1, y2, y3, y4, y5, y6, y7, q1, q2, q3, q4]
          simp only [go_sem, Act.put, List.getElem_toArray, List.getElem_cons_succ, List.getElem_cons_zero, List.setIfInBounds_toArray, List.set_cons_succ, List.set_cons_zero]
          refine takeT (i := 18) (.pointer (some ⟨b2, o2 + j * 4 + 2, none⟩)) rfl (by kernel_rfl) (by kernel_rfl) (by kernel_rfl) (by kernel_rfl) (by kernel_rfl) (fun _ _ _ h => h) (by rfl) ?_ (fun _ => rfl) hS ?_
          · intro w' h9
            obtain ⟨y0, y1, y2, y3, y4, y5, y6, y7⟩ := h9
            simp [go_sem, Act.put, y0, y1, y2, y3, y4, y5, y6, y7, q1, q2, q3, q4]
          simp only [go_sem, Act.put, List.getElem_toArray, List.getElem_cons_succ, List.getElem_cons_zero, List.setIfInBounds_toArray, List.set_cons_succ, List.set_cons_zero]
          refine takeT (i := 19) (.int .i64 (C j)) rfl (by kernel_rfl) (by kernel_rfl) (by kernel_rfl) (by kernel_rfl) (by kernel_rfl) (fun _ _ _ h => h) (by rfl) ?_ (fun _ => rfl) hS ?_
          · intro w' h9
            obtain ⟨y0, y1, y2, y3, y4, y5, y6, y7⟩ := h9
            simp [go_sem, Act.put, y0, y1, y2, y3, y4, y5, y6, y7, q1, q2, q3, q4]
          simp only [go_sem, Act.put, List.getElem_toArray, List.getElem_cons_succ, List.getElem_cons_zero, List.setIfInBounds_toArray, List.set_cons_succ, List.set_cons_zero]
          refine oneN (i := 20) (by kernel_rfl) (wpOpIn_step rfl fun K' hK' => ?_)
          rw [if_pos (by rfl)]
          refine ⟨fun _ _ => trivial, ?_⟩
          simp only [go_sem, Act.put]
          simp [go_sem, enters_of Tryd.func98 (by kernel_rfl) rfl]
          refine (callsIn_wide.2 (span_yes (P i) (R i) (A j) (C j) _ (by omega) (by omega) (by omega) (by omega) (by omega) (by omega) (by omega) (by omega))).mono ?_
          rintro r u1 ⟨rfl, bb1⟩
          rw [← hX]
          have bb1 : Below wr.heap.size wr u1 := Below.trans ((Below.refl _ wr).drew) bb1
          have e0 := keepC bb1 e0
          have e1 := keepC bb1 e1
          have e2 := keepC bb1 e2
          have e3 := keepC bb1 e3
          have e4 := keepC bb1 e4
          have e5 := keepC bb1 e5
          have e6 := keepC bb1 e6
          have e7 := keepC bb1 e7
          have hS := And.intro e0 (And.intro e1 (And.intro e2 (And.intro e3 (And.intro e4 (And.intro e5 (And.intro e6 e7))))))
          dsimp only
          refine hK' _ _ ⟨hS, ?_⟩
          clear hK'
          refine oneN (i := 21) (by kernel_rfl) (wpOpIn_step rfl fun K' hK' => ?_)
          rw [if_pos (by rfl)]
          refine ⟨fun _ _ => trivial, ?_⟩
          simp only [go_sem, Act.put]
          simp [go_sem, hwX]
          refine hK' _ _ ⟨hS, ?_⟩
          clear hK'
          refine oneN (i := 22) (by kernel_rfl) (wpOpIn_step rfl fun K' hK' => ?_)
          rw [if_pos (by rfl)]
          refine ⟨fun _ _ => trivial, ?_⟩
          simp only [go_sem, Act.put]
          simp [go_sem]
          refine hK' _ _ ⟨hS, ?_⟩
          clear hK'
          refine oneN (i := 23) (by kernel_rfl) (wpOpIn_step rfl fun K' hK' => ?_)
          rw [if_pos (by rfl)]
          refine ⟨fun _ _ => trivial, ?_⟩
          simp only [go_sem, Act.put]
          simp [go_sem]
          refine hK' _ _ ⟨hS, ?_⟩
          clear hK' hS
          refine doneT (by kernel_rfl) ?_ _
          gi_wp2
          go_upto_region 11 with fail
          refine (wpIn_wide (n := 9)).1 ?_
          gi_wp2
          refine regionT (S := fun w' => w'.cell? ⟨b1, o1 + i * 4, none⟩ = some (.int .i64 (P i)) ∧ w'.cell? ⟨b1, o1 + i * 4 + 1, none⟩ = some (.int .i64 (Q i)) ∧ w'.cell? ⟨b1, o1 + i * 4 + 2, none⟩ = some (.int .i64 (R i)) ∧ w'.cell? ⟨b1, o1 + i * 4 + 3, none⟩ = some (.int .i64 (S i)) ∧ w'.cell? ⟨b2, o2 + j * 4, none⟩ = some (.int .i64 (A j)) ∧ w'.cell? ⟨b2, o2 + j * 4 + 1, none⟩ = some (.int .i64 (B j)) ∧ w'.cell? ⟨b2, o2 + j * 4 + 2, none⟩ = some (.int .i64 (C j)) ∧ w'.cell? ⟨b2, o2 + j * 4 + 3, none⟩ = some (.int .i64 (D j))) (tl := fun _ => false) hmix ?_
          have hS : u1.drew.cell? ⟨b1, o1 + i * 4, none⟩ = some (.int .i64 (P i)) ∧ u1.drew.cell? ⟨b1, o1 + i * 4 + 1, none⟩ = some (.int .i64 (Q i)) ∧ u1.drew.cell? ⟨b1, o1 + i * 4 + 2, none⟩ = some (.int .i64 (R i)) ∧ u1.drew.cell? ⟨b1, o1 + i * 4 + 3, none⟩ = some (.int .i64 (S i)) ∧ u1.drew.cell? ⟨b2, o2 + j * 4, none⟩ = some (.int .i64 (A j)) ∧ u1.drew.cell? ⟨b2, o2 + j * 4 + 1, none⟩ = some (.int .i64 (B j)) ∧ u1.drew.cell? ⟨b2, o2 + j * 4 + 2, none⟩ = some (.int .i64 (C j)) ∧ u1.drew.cell? ⟨b2, o2 + j * 4 + 3, none⟩ = some (.int .i64 (D j)) := ⟨e0, e1, e2, e3, e4, e5, e6, e7⟩
          refine takeT (i := 0) (.slice (some ⟨b1, o1, none⟩) n cap) rfl (by kernel_rfl) (by kernel_rfl) (by kernel_rfl) (by kernel_rfl) (by kernel_rfl) (fun _ _ _ h => h) (by rfl) ?_ (fun _ => rfl) hS ?_
          · intro w' h9
            obtain ⟨y0, y1, y2, y3, y4, y5, y6, y7⟩ := h9
            simp [go_sem, Act.put, y0, y1, y2, y3, y4, y5, y6, y7, q1, q2, q3, q4]
          simp only [go_sem, Act.put, List.getElem_toArray, List.getElem_cons_succ, List.getElem_cons_zero, List.setIfInBounds_toArray, List.set_cons_succ, List.set_cons_zero]
          refine takeT (i := 1) (.int .i64 (i : Int)) rfl (by kernel_rfl) (by kernel_rfl) (by kernel_rfl) (by kernel_rfl) (by kernel_rfl) (fun _ _ _ h => h) (by rfl) ?_ (fun _ => rfl) hS ?_
          · intro w' h9
            obtain ⟨y0, y1, y2, y3, y4, y5, y6, y7⟩ := h9
            simp [go_sem, Act.put, y0, y1, y2, y3, y4, y5, y6, y7, q1, q2, q3, q4]
          simp only [go_sem, Act.put, List.getElem_toArray, List.getElem_cons_succ, List.getElem_cons_zero, List.setIfInBounds_toArray, List.set_cons_succ, List.set_cons_zero]
          refine takeT (i := 2) (.pointer (some ⟨b1, o1 + i * 4, none⟩)) rfl (by kernel_rfl) (by kernel_rfl) (by kernel_rfl) (by kernel_rfl) (by kernel_rfl) (fun _ _ _ h => h) (by rfl) ?_ (fun _ => rfl) hS ?_
          · intro w' h9
            obtain ⟨y0, y1, y2, y3, y4, y5, y6, y7⟩ := h9
            simp [go_sem, Act.put, y0, y1, y2, y3, y4, y5, y6, y7, q1, q2, q3, q4]
          simp only [go_sem, Act.put, List.getElem_toArray, List.getElem_cons_succ, List.getElem_cons_zero, List.setIfInBounds_toArray, List.set_cons_succ, List.set_cons_zero]
          refine takeT (i := 3) (.pointer (some ⟨b1, o1 + i * 4 + 1, none⟩)) rfl (by kernel_rfl) (by kernel_rfl) (by kernel_rfl) (by kernel_rfl) (by kernel_rfl) (fun _ _ _ h => h) (by rfl) ?_ (fun _ => rfl) hS ?_
          · intro w' h9
            obtain ⟨y0, y1, y2, y3, y4, y5, y6, y7⟩ := h9
            simp [go_sem, Act.put, y0, y1, y2, y3, y4, y5, y6, y7, q1, q2, q3, q4]
          simp only [go_sem, Act.put, List.getElem_toArray, List.getElem_cons_succ, List.getElem_cons_zero, List.setIfInBounds_toArray, List.set_cons_succ, List.set_cons_zero]
          refine takeT (i := 4) (.int .i64 (Q i)) rfl (by kernel_rfl) (by kernel_rfl) (by kernel_rfl) (by kernel_rfl) (by kernel_rfl) (fun _ _ _ h => h) (by rfl) ?_ (fun _ => rfl) hS ?_
          · intro w' h9
            obtain ⟨y0, y1, y2, y3, y4, y5, y6, y7⟩ := h9
            simp [go_sem, Act.put, y0, y1, y2, y3, y4, y5, y6, y7, q1, q2, q3, q4]
          simp only [go_sem, Act.put, List.getElem_toArray, List.getElem_cons_succ, List.getElem_cons_zero, List.setIfInBounds_toArray, List.set_cons_succ, List.set_cons_zero]
          refine takeT (i := 5) (.slice (some ⟨b1, o1, none⟩) n cap) rfl (by kernel_rfl) (by kernel_rfl) (by kernel_rfl) (by kernel_rfl) (by kernel_rfl) (fun _ _ _ h => h) (by rfl) ?_ (fun _ => rfl) hS ?_
          · intro w' h9
            obtain ⟨y0, y1, y2, y3, y4, y5, y6, y7⟩ := h9
            simp [go_sem, Act.put, y0, y1, y2, y3, y4, y5, y6, y7, q1, q2, q3, q4]
          simp only [go_sem, Act.put, List.getElem_toArray, List.getElem_cons_succ, List.getElem_cons_zero, List.setIfInBounds_toArray, List.set_cons_succ, List.set_cons_zero]
          refine takeT (i := 6) (.int .i64 (i : Int)) rfl (by kernel_rfl) (by kernel_rfl) (by kernel_rfl) (by kernel_rfl) (by kernel_rfl) (fun _ _ _ h => h) (by rfl) ?_ (fun _ => rfl) hS ?_
          · intro w' h9
            obtain ⟨y0, y1, y2, y3, y4, y5, y6, y7⟩ := h9
            simp [go_sem, Act.put, y0, y1, y2, y3, y4, y5, y6, y7, q1, q2, q3, q4]
          simp only [go_sem, Act.put, List.getElem_toArray, List.getElem_cons_succ, List.getElem_cons_zero, List.setIfInBounds_toArray, List.set_cons_succ, List.set_cons_zero]
          refine takeT (i := 7) (.pointer (some ⟨b1, o1 + i * 4, none⟩)) rfl (by kernel_rfl) (by kernel_rfl) (by kernel_rfl) (by kernel_rfl) (by kernel_rfl) (fun _ _ _ h => h) (by rfl) ?_ (fun _ => rfl) hS ?_
          · intro w' h9
            obtain ⟨y0, y1, y2, y3, y4, y5, y6, y7⟩ := h9
            simp [go_sem, Act.put, y0, y1, y2, y3, y4, y5, y6, y7, q1, q2, q3, q4]
          simp only [go_sem, Act.put, List.getElem_toArray, List.getElem_cons_succ, List.getElem_cons_zero, List.setIfInBounds_toArray, List.set_cons_succ, List.set_cons_zero]
          refine takeT (i := 8) (.pointer (some ⟨b1, o1 + i * 4 + 3, none⟩)) rfl (by kernel_rfl) (by kernel_rfl) (by kernel_rfl) (by kernel_rfl) (by kernel_rfl) (fun _ _ _ h => h) (by rfl) ?_ (fun _ => rfl) hS ?_
          · intro w' h9
            obtain ⟨y0, y1, y2, y3, y4, y5, y6, y7⟩ := h9
            simp [go_sem, Act.put, y0, y1, y2, y3, y4, y5, y6, y7, q1, q2, q3, q4]
          simp only [go_sem, Act.put, List.getElem_toArray, List.getElem_cons_succ, List.getElem_cons_zero, List.setIfInBounds_toArray, List.set_cons_succ, List.set_cons_zero]
          refine takeT (i := 9) (.int .i64 (S i)) rfl (by kernel_rfl) (by kernel_rfl) (by kernel_rfl) (by kernel_rfl) (by kernel_rfl) (fun _ _ _ h => h) (by rfl) ?_ (fun _ => rfl) hS ?_
          · intro w' h9
            obtain ⟨y0, y1, y2, y3, y4, y5, y6, y7⟩ := h9
            simp [go_sem, Act.put, y0, y1, y2, y3, y4, y5, y6, y7, q1, q2, q3, q4]
          simp only [go_sem, Act.put, List.getElem_toArray, List.getElem_cons_succ, List.getElem_cons_zero, List.setIfInBounds_toArray, List.set_cons_succ, List.set_cons_zero]
          refine takeT (i := 10) (.slice (some ⟨b2, o2, none⟩) k cap') rfl (by kernel_rfl) (by kernel_rfl) (by kernel_rfl) (by kernel_rfl) (by kernel_rfl) (fun _ _ _ h => h) (by rfl) ?_ (fun _ => rfl) hS ?_
          · intro w' h9
            obtain ⟨y0, y1, y2, y3, y4, y5, y6, y7⟩ := h9
            simp [go_sem, Act.put, y0, y1, y2, y3, y4, y5, y6, y7, q1, q2, q3, q4]
          simp only [go_sem, Act.put, List.getElem_toArray, List.getElem_cons_succ, List.getElem_cons_zero, List.setIfInBounds_toArray, List.set_cons_succ, List.set_cons_zero]
          refine takeT (i := 11) (.int .i64 (j : Int)) rfl (by kernel_rfl) (by kernel_rfl) (by kernel_rfl) (by kernel_rfl) (by kernel_rfl) (fun _ _ _ h => h) (by rfl) ?_ (fun _ => rfl) hS ?_
          · intro w' h9
            obtain ⟨y0, y1, y2, y3, y4, y5, y6, y7⟩ := h9
            simp [go_sem, Act.put, y0, y1, y2, y3, y4, y5, y6, y7, q1, q2, q3, q4]
          simp only [go_sem, Act.put, List.getElem_toArray, List.getElem_cons_succ, List.getElem_cons_zero, List.setIfInBounds_toArray, List.set_cons_succ, List.set_cons_zero]
          refine takeT (i := 12) (.pointer (some ⟨b2, o2 + j * 4, none⟩)) rfl (by kernel_rfl) (by kernel_rfl) (by kernel_rfl) (by kernel_rfl) (by kernel_rfl) (fun _ _ _ h => h) (by rfl) ?_ (fun _ => rfl) hS ?_
          · intro w' h9
            obtain ⟨y0, y1, y2, y3, y4, y5, y6, y7⟩ := h9
            simp [go_sem, Act.put, y0, y1, y2, y3, y4, y5, y6, y7, q1, q2, q3, q4]
          simp only [go_sem, Act.put, List.getElem_toArray, List.getElem_cons_succ, List.getElem_cons_zero, List.setIfInBounds_toArray, List.set_cons_succ, List.set_cons_zero]
          refine takeT (i := 13) (.pointer (some ⟨b2, o2 + j * 4 + 1, none⟩)) rfl (by kernel_rfl) (by kernel_rfl) (by kernel_rfl) (by kernel_rfl) (by kernel_rfl) (fun _ _ _ h => h) (by rfl) ?_ (fun _ => rfl) hS ?_
          · intro w' h9
            obtain ⟨y0, y1, y2, y3, y4, y5, y6, y7⟩ := h9
            simp [go_sem, Act.put, y0, y1, y2, y3, y4, y5, y6, y7, q1, q2, q3, q4]
          simp only [go_sem, Act.put, List.getElem_toArray, List.getElem_cons_succ, List.getElem_cons_zero, List.setIfInBounds_toArray, List.set_cons_succ, List.set_cons_zero]
          refine takeT (i := 14) (.int .i64 (B j)) rfl (by kernel_rfl) (by kernel_rfl) (by kernel_rfl) (by kernel_rfl) (by kernel_rfl) (fun _ _ _ h => h) (by rfl) ?_ (fun _ => rfl) hS ?_
          · intro w' h9
            obtain ⟨y0, y1, y2, y3, y4, y5, y6, y7⟩ := h9
            simp [go_sem, Act.put, y0, y1, y2, y3, y4, y5, y6, y7, q1, q2, q3, q4]
          simp only [go_sem, Act.put, List.getElem_toArray, List.getElem_cons_succ, List.getElem_cons_zero, List.setIfInBounds_toArray, List.set_cons_succ, List.set_cons_zero]
          refine takeT (i := 15) (.slice (some ⟨b2, o2, none⟩) k cap') rfl (by kernel_rfl) (by kernel_rfl) (by kernel_rfl) (by kernel_rfl) (by kernel_rfl) (fun _ _ _ h => h) (by rfl) ?_ (fun _ => rfl) hS ?_
          · intro w' h9
            obtain ⟨y0, y1, y2, y3, y4, y5, y6, y7⟩ := h9
            simp [go_sem, Act.put, y0, y1, y2, y3, y4, y5, y6, y7, q1, q2, q3, q4]
          simp only [go_sem, Act.put, List.getElem_toArray, List.getElem_cons_succ, List.getElem_cons_zero, List.setIfInBounds_toArray, List.set_cons_succ, List.set_cons_zero]
          refine takeT (i := 16) (.int .i64 (j : Int)) rfl (by kernel_rfl) (by kernel_rfl) (by kernel_rfl) (by kernel_rfl) (by kernel_rfl) (fun _ _ _ h => h) (by rfl) ?_ (fun _ => rfl) hS ?_
          · intro w' h9
            obtain ⟨y0, y1, y2, y3, y4, y5, y6, y7⟩ := h9
            simp [go_sem, Act.put, y0, y1, y2, y3, y4, y5, y6, y7, q1, q2, q3, q4]
          simp only [go_sem, Act.put, List.getElem_toArray, List.getElem_cons_succ, List.getElem_cons_zero, List.setIfInBounds_toArray, List.set_cons_succ, List.set_cons_zero]
          refine takeT (i := 17) (.pointer (some ⟨b2, o2 + j * 4, none⟩)) rfl (by kernel_rfl) (by kernel_rfl) (by kernel_rfl) (by kernel_rfl) (by kernel_rfl) (fun _ _ _ h => h) (by rfl) ?_ (fun _ => rfl) hS ?_
          · intro w' h9
            obtain ⟨y0, y1, y2, y3, y4, y5, y6, y7⟩ := h9
            simp [go_sem, Act.put, y0, y1, y2, y3, y4, y5, y6, y7, q1, q2, q3, q4]
          simp only [go_sem, Act.put, List.getElem_toArray, List.getElem_cons_succ, List.getElem_cons_zero, List.setIfInBounds_toArray, List.set_cons_succ, List.set_cons_zero]
          refine takeT (i := 18) (.pointer (some ⟨b2, o2 + j * 4 + 3, none⟩)) rfl (by kernel_rfl) (by kernel_rfl) (by kernel_rfl) (by kernel_rfl) (by kernel_rfl) (fun _ _ _ h => h) (by rfl) ?_ (fun _ => rfl) hS ?_
          · intro w' h9
            obtain ⟨y0, y1, y2, y3, y4, y5, y6, y7⟩ := h9
            simp [go_sem, Act.put, y0, y1, y2, y3, y4, y5, y6, y7, q1, q2, q3, q4]
          simp only [go_sem, Act.put, List.getElem_toArray, List.getElem_cons_succ, List.getElem_cons_zero, List.setIfInBounds_toArray, List.set_cons_succ, List.set_cons_zero]
          refine takeT (i := 19) (.int .i64 (D j)) rfl (by kernel_rfl) (by kernel_rfl) (by kernel_rfl) (by kernel_rfl) (by kernel_rfl) (fun _ _ _ h => h) (by rfl) ?_ (fun _ => rfl) hS ?_
          · intro w' h9
            obtain ⟨y0, y1, y2, y3, y4, y5, y6, y7⟩ := h9
            simp [go_sem, Act.put, y0, y1, y2, y3, y4, y5, y6, y7, q1, q2, q3, q4]
          simp only [go_sem, Act.put, List.getElem_toArray, List.getElem_cons_succ, List.getElem_cons_zero, List.setIfInBounds_toArray, List.set_cons_succ, List.set_cons_zero]
          refine oneN (i := 20) (by kernel_rfl) (wpOpIn_step rfl fun K' hK' => ?_)
          rw [if_pos (by rfl)]
          refine ⟨fun _ _ => trivial, ?_⟩
          simp only [go_sem, Act.put]
          simp [go_sem, enters_of Tryd.func98 (by kernel_rfl) rfl]
          refine (callsIn_wide.2 (span_yes (Q i) (S i) (B j) (D j) _ (by omega) (by omega) (by omega) (by omega) (by omega) (by omega) (by omega) (by omega))).mono ?_
          rintro r u2 ⟨rfl, bb2⟩
          rw [← hY]
          have bb2 : Below u1.heap.size u1 u2 := Below.trans ((Below.refl _ u1).drew) bb2
          have e0 := keepC bb2 e0
          have e1 := keepC bb2 e1
          have e2 := keepC bb2 e2
          have e3 := keepC bb2 e3
          have e4 := keepC bb2 e4
          have e5 := keepC bb2 e5
          have e6 := keepC bb2 e6
          have e7 := keepC bb2 e7
          have hS := And.intro e0 (And.intro e1 (And.intro e2 (And.intro e3 (And.intro e4 (And.intro e5 (And.intro e6 e7))))))
          dsimp only
          refine hK' _ _ ⟨hS, ?_⟩
          clear hK'
          refine oneN (i := 21) (by kernel_rfl) (wpOpIn_step rfl fun K' hK' => ?_)
          rw [if_pos (by rfl)]
          refine ⟨fun _ _ => trivial, ?_⟩
          simp only [go_sem, Act.put]
          simp [go_sem, hwY]
          refine hK' _ _ ⟨hS, ?_⟩
          clear hK'
          refine oneN (i := 22) (by kernel_rfl) (wpOpIn_step rfl fun K' hK' => ?_)
          rw [if_pos (by rfl)]
          refine ⟨fun _ _ => trivial, ?_⟩
          simp only [go_sem, Act.put]
          simp [go_sem]
          refine hK' _ _ ⟨hS, ?_⟩
          clear hK'
          refine oneN (i := 23) (by kernel_rfl) (wpOpIn_step rfl fun K' hK' => ?_)
          rw [if_pos (by rfl)]
          refine ⟨fun _ _ => trivial, ?_⟩
          simp only [go_sem, Act.put]
          simp [go_sem]
          refine hK' _ _ ⟨hS, ?_⟩
          clear hK' hS
          refine doneT (by kernel_rfl) ?_ _
          gi_wp2
          have HX := Lib.hid (Ext.trans (Ext.trans HX.out bb1) bb2)
          have HN : Hid (min v (max 0 (max (1 - X) (max 0 (1 - Y)))) = bK (pdI P Q R S A B C D) i (bI (pdI P Q R S A B C D) k i) (j + 1)) := Lib.hid (by rw [bK, ← hv.out, pdI, ← hX, ← hY]; omega)
          clear e0 e1 e2 e3 e4 e5 e6 e7 hX hY bx by_ cx cy g1 g2 hwX hwY bb1 bb2
          go_wp2_with fail
          go_roundw
          case rel => exact ⟨j + 1, _, by omega, by go_num, rfl, HN, HX⟩
          case measure => simp [intOf]; omega
        · have q3 : ¬ (j : Int) < (k : Int) := by omega
          obtain rfl : j = k := by omega
          go_wp2_with fail
          go_roundw
          case rel => exact ⟨i + 1, v, by omega, by go_num, rfl, Lib.hid (by rw [bI]; exact hv.out), HX⟩
          case measure => simp [intOf]; omega
    · have q1 : ¬ (i : Int) < (n : Int) := by omega
      obtain rfl : i = n := by omega
      go_wp2_with fail
      go_ret
      exact ⟨by rw [← hv.out]; rfl, HW.out⟩
end Go.Proofs.YtgccnongfdbalaaDoor

namespace Go.Proofs.YtgccnongfdbalaaDoor
open Go.RowKit
set_option linter.unusedVariables false
set_option linter.unusedSimpArgs false

theorem bK_le (d : Nat → Nat → Int) (i : Nat) (b s : Int) : ∀ N, bK d i b N ≤ s ↔ b ≤ s ∨ ∃ j, j < N ∧ d i j ≤ s
  | 0 => by simp [bK]
  | N + 1 => by
    have ih := bK_le d i b s N
    have e : bK d i b (N + 1) ≤ s ↔ bK d i b N ≤ s ∨ d i N ≤ s := by rw [bK]; omega
    rw [e, ih]
    constructor
    · rintro ((h | ⟨j, h1, h2⟩) | h)
      · exact .inl h
      · exact .inr ⟨j, by omega, h2⟩
      · exact .inr ⟨N, by omega, h⟩
    · rintro (h | ⟨j, h1, h2⟩)
      · exact .inl (.inl h)
      · by_cases e : j = N
        · subst e; exact .inr h2
        · exact .inl (.inr ⟨j, by omega, h2⟩)
theorem bI_le (d : Nat → Nat → Int) (N : Nat) (s : Int) : ∀ M, bI d N M ≤ s ↔ 80 ≤ s ∨ ∃ i, i < M ∧ ∃ j, j < N ∧ d i j ≤ s
  | 0 => by simp [bI]
  | M + 1 => by
    rw [bI, bK_le, bI_le d N s M]
    constructor
    · rintro ((h | ⟨i, h1, h2⟩) | h)
      · exact .inl h
      · exact .inr ⟨i, by omega, h2⟩
      · exact .inr ⟨M, by omega, h⟩
    · rintro (h | ⟨i, h1, h2⟩)
      · exact .inl (.inl h)
      · by_cases e : i = M
        · subst e; exact .inr h2
        · exact .inl (.inr ⟨i, by omega, h2⟩)
theorem span1 {a c p r : Int} {s : Nat} (hac : a < c) (hpr : p < r) : max 0 (1 - (lo2 c r - hi2 a p)) ≤ (s : Int) ↔ ∃ x x', a ≤ x ∧ x < c ∧ p ≤ x' ∧ x' < r ∧ x ≤ x' + s ∧ x' ≤ x + s := by
  have h1 := lo2_bd c r
  have h2 := hi2_bd a p
  constructor
  · intro h
    by_cases e : hi2 a p < lo2 c r
    · exact ⟨hi2 a p, hi2 a p, by omega, by omega, by omega, by omega, by omega, by omega⟩
    · by_cases e2 : c ≤ p
      · exact ⟨c - 1, p, by omega, by omega, by omega, by omega, by omega, by omega⟩
      · exact ⟨a, r - 1, by omega, by omega, by omega, by omega, by omega, by omega⟩
  · rintro ⟨x, x', a1, a2, a3, a4, a5, a6⟩
    omega
theorem nr_pair {P Q R S A B C D : Nat → Int} {n k : Nat} (hv : ∀ i, i < n → rvB (P i) (Q i) (R i) (S i) = true) (hv' : ∀ i, i < k → rvB (A i) (B i) (C i) (D i) = true) (s : Nat) :
    nrB (covF P Q R S n) (covF A B C D k) s = true ↔ ∃ i, i < n ∧ ∃ j, j < k ∧ pdI P Q R S A B C D i j ≤ (s : Int) := by
  have hp : ∀ i j, pdI P Q R S A B C D i j ≤ (s : Int) ↔ (max 0 (1 - (lo2 (R i) (C j) - hi2 (P i) (A j))) ≤ (s : Int) ∧ max 0 (1 - (lo2 (S i) (D j) - hi2 (Q i) (B j))) ≤ (s : Int)) := fun i j => by unfold pdI; omega
  rw [nrB_t]
  constructor
  · rintro ⟨J, hJ, h1, h2⟩
    obtain ⟨u, v, a1, a2, a3, a4, a5, a6, a7⟩ := (seeF_t _ _ _ _).1 h1
    unfold covF at a7 h2
    obtain ⟨i, hi, c1, c2, c3, c4⟩ := covB_t.1 a7
    obtain ⟨j, hj, d1, d2, d3, d4⟩ := covB_t.1 h2
    rw [show (v * 80 + u) % 80 = u by omega] at c1 c2
    rw [show (v * 80 + u) / 80 = v by omega] at c3 c4
    have g1 := rv_bd (hv i hi)
    have g2 := rv_bd (hv' j hj)
    exact ⟨i, hi, j, hj, (hp i j).2 ⟨(span1 (by omega) (by omega)).2 ⟨_, _, c1, c2, d1, d2, by omega, by omega⟩, (span1 (by omega) (by omega)).2 ⟨_, _, c3, c4, d3, d4, by omega, by omega⟩⟩⟩
  · rintro ⟨i, hi, j, hj, h⟩
    have g1 := rv_bd (hv i hi)
    have g2 := rv_bd (hv' j hj)
    obtain ⟨hx, hy⟩ := (hp i j).1 h
    obtain ⟨x, x', a1, a2, a3, a4, a5, a6⟩ := (span1 (by omega) (by omega)).1 hx
    obtain ⟨y, y', b1, b2, b3, b4, b5, b6⟩ := (span1 (by omega) (by omega)).1 hy
    obtain ⟨u, hu⟩ : ∃ u : Nat, x = (u : Int) - 40 := ⟨(x + 40).toNat, by omega⟩
    obtain ⟨u', hu'⟩ : ∃ u : Nat, x' = (u : Int) - 40 := ⟨(x' + 40).toNat, by omega⟩
    obtain ⟨v, hv2⟩ : ∃ u : Nat, y = (u : Int) - 40 := ⟨(y + 40).toNat, by omega⟩
    obtain ⟨v', hv2'⟩ : ∃ u : Nat, y' = (u : Int) - 40 := ⟨(y' + 40).toNat, by omega⟩
    refine ⟨v' * 80 + u', by omega, (seeF_t _ _ _ _).2 ⟨u, v, by omega, by omega, by omega, by omega, by omega, by omega, ?_⟩, ?_⟩
    · unfold covF
      rw [show (v * 80 + u) % 80 = u by omega, show (v * 80 + u) / 80 = v by omega]
      exact covB_t.2 ⟨i, hi, by omega, by omega, by omega, by omega⟩
    · unfold covF
      rw [show (v' * 80 + u') % 80 = u' by omega, show (v' * 80 + u') / 80 = v' by omega]
      exact covB_t.2 ⟨j, hj, by omega, by omega, by omega, by omega⟩
theorem pd_bd {P Q R S A B C D : Nat → Int} {i j : Nat} (h1 : rvB (P i) (Q i) (R i) (S i) = true) (h2 : rvB (A j) (B j) (C j) (D j) = true) : 0 ≤ pdI P Q R S A B C D i j ∧ pdI P Q R S A B C D i j ≤ 79 := by
  have g1 := rv_bd h1
  have g2 := rv_bd h2
  have a1 := lo2_bd (R i) (C j)
  have a2 := lo2_bd (S i) (D j)
  have a3 := hi2_bd (P i) (A j)
  have a4 := hi2_bd (Q i) (B j)
  unfold pdI
  omega
/-- What the model finds is what the search finds. -/
theorem bI_is {P Q R S A B C D : Nat → Int} {n k : Nat} (hok : okR P Q R S n = true) (hok' : okR A B C D k = true) (hn : 0 < n) (hk : 0 < k) : rdIs P Q R S n A B C D k (bI (pdI P Q R S A B C D) k n) := by
  have hv := okR_all hok
  have hv' := okR_all hok'
  have h79 : bI (pdI P Q R S A B C D) k n ≤ 79 := (bI_le _ _ _ _).2 (.inr ⟨0, hn, 0, hk, (pd_bd (hv 0 hn) (hv' 0 hk)).2⟩)
  have h0 : ¬ bI (pdI P Q R S A B C D) k n ≤ -1 := fun h => by
    rcases (bI_le _ _ _ _).1 h with h | ⟨i, hi, j, hj, h⟩
    · omega
    · have := (pd_bd (hv i hi) (hv' j hj)).1
      omega
  obtain ⟨r, hr⟩ : ∃ r : Nat, bI (pdI P Q R S A B C D) k n = (r : Int) := ⟨(bI (pdI P Q R S A B C D) k n).toNat, by omega⟩
  rw [hr]
  have hs : ∀ s : Nat, s ≤ 79 → (nrB (covF P Q R S n) (covF A B C D k) s = true ↔ r ≤ s) := fun s hs => by
    rw [nr_pair hv hv']
    have := bI_le (pdI P Q R S A B C D) k (s : Int) n
    rw [hr] at this
    constructor
    · intro h
      have := this.2 (.inr h)
      omega
    · intro h
      rcases this.1 (by omega) with h2 | h2
      · omega
      · exact h2
  refine rdIs_yes (by unfold rdOK; rw [hok, hok', decide_eq_true hn, decide_eq_true hk]; rfl) ⟨by omega, fun s h => ?_, .inr ((hs r (by omega)).2 (Nat.le_refl _))⟩
  cases e : nrB (covF P Q R S n) (covF A B C D k) s with
  | false => rfl
  | true => have := (hs s (by omega)).1 e; omega
set_option maxHeartbeats 4000000 in
theorem specRegionDistance_all (m : Option Addr) (n cap : Nat) (P Q R S : Nat → Int) (m' : Option Addr) (k cap' : Nat) (A B C D : Nat → Int) (w : World) (hn : n ≤ 1048576) (hk : k ≤ 1048576) (hR : RectsIs w.heap.size w m n P Q R S) (hR' : RectsIs w.heap.size w m' k A B C D) :
    Calls Tryd.prog 49 #[.slice m n cap, .slice m' k cap'] w fun e w' => (∃ v : Int, e = .returned (.int .i64 v) ∧ rdIs P Q R S n A B C D k v) ∧ Below w.heap.size w w' := by
  have HR := Lib.hid hR
  have HR' := Lib.hid hR'
  clear hR hR'
  cases hok : okR P Q R S n with
  | false =>
    cases hok' : okR A B C D k
    all_goals
      have HN := Lib.hid (rdIs_no (P := P) (Q := Q) (R := R) (S := S) (n := n) (A := A) (B := B) (C := C) (D := D) (k := k) (by unfold rdOK; rw [hok]; simp))
      go_enter Tryd.func49, Tryd.ntmps49
      go_wp2_with fail
      refine (l04Both_any m n cap P Q R S m' k cap' A B C D _ hn hk HR.out HR'.out).mono ?_
      rintro e w1 ⟨rfl, bw1⟩
      rw [hok, hok']
      go_wp2_with fail
      go_ret
      exact ⟨⟨-1, rfl, HN.out⟩, bw1⟩
  | true =>
  cases hok' : okR A B C D k with
  | false =>
    have HN := Lib.hid (rdIs_no (P := P) (Q := Q) (R := R) (S := S) (n := n) (A := A) (B := B) (C := C) (D := D) (k := k) (by unfold rdOK; rw [hok, hok']; simp))
    go_enter Tryd.func49, Tryd.ntmps49
    go_wp2_with fail
    refine (l04Both_any m n cap P Q R S m' k cap' A B C D _ hn hk HR.out HR'.out).mono ?_
    rintro e w1 ⟨rfl, bw1⟩
    rw [hok, hok']
    go_wp2_with fail
    go_ret
    exact ⟨⟨-1, rfl, HN.out⟩, bw1⟩
  | true =>
  by_cases hn0 : n = 0
  · have z0 : ((n : Int) == 0) = true := by simp [hn0]
    have HN := Lib.hid (rdIs_no (P := P) (Q := Q) (R := R) (S := S) (n := n) (A := A) (B := B) (C := C) (D := D) (k := k) (by unfold rdOK; rw [decide_eq_false (by omega : ¬ 0 < n)]; simp))
    clear hn0
    go_enter Tryd.func49, Tryd.ntmps49
    go_wp2_with fail
    refine (l04Both_any m n cap P Q R S m' k cap' A B C D _ hn hk HR.out HR'.out).mono ?_
    rintro e w1 ⟨rfl, bw1⟩
    rw [hok, hok']
    go_wp2_with fail
    go_ret
    exact ⟨⟨-1, rfl, HN.out⟩, bw1⟩
  by_cases hk0 : k = 0
  · have z0 : ((n : Int) == 0) = false := by simp [hn0]
    have z1 : ((k : Int) == 0) = true := by simp [hk0]
    have HN := Lib.hid (rdIs_no (P := P) (Q := Q) (R := R) (S := S) (n := n) (A := A) (B := B) (C := C) (D := D) (k := k) (by unfold rdOK; rw [decide_eq_false (by omega : ¬ 0 < k)]; simp))
    clear hk0
    go_enter Tryd.func49, Tryd.ntmps49
    go_wp2_with fail
    refine (l04Both_any m n cap P Q R S m' k cap' A B C D _ hn hk HR.out HR'.out).mono ?_
    rintro e w1 ⟨rfl, bw1⟩
    rw [hok, hok']
    go_wp2_with fail
    go_ret
    exact ⟨⟨-1, rfl, HN.out⟩, bw1⟩
  refine (specRd_yes m n cap P Q R S m' k cap' A B C D w ⟨by omega, hn⟩ ⟨by omega, hk⟩ HR.out HR'.out hok hok').mono ?_
  rintro e w1 ⟨rfl, bw1⟩
  exact ⟨⟨_, rfl, bI_is hok hok' (by omega) (by omega)⟩, bw1⟩
/-- The answer. -/
def rdV (P Q R S : Nat → Int) (n : Nat) (A B C D : Nat → Int) (k : Nat) : Int := if rdOK P Q R S n A B C D k = true then bI (pdI P Q R S A B C D) k n else -1
theorem rdV_is (P Q R S : Nat → Int) (n : Nat) (A B C D : Nat → Int) (k : Nat) : rdIs P Q R S n A B C D k (rdV P Q R S n A B C D k) := by
  unfold rdV
  cases h : rdOK P Q R S n A B C D k with
  | false => rw [if_neg (by simp)]; exact rdIs_no h
  | true =>
    rw [if_pos rfl]
    have h' := h
    unfold rdOK at h'
    simp only [Bool.and_eq_true, decide_eq_true_eq] at h'
    exact bI_is h'.1.1 h'.1.2 h'.2.1 h'.2.2
theorem specRdV_any (m : Option Addr) (n cap : Nat) (P Q R S : Nat → Int) (m' : Option Addr) (k cap' : Nat) (A B C D : Nat → Int) (w : World) (hn : n ≤ 1048576) (hk : k ≤ 1048576) (hR : RectsIs w.heap.size w m n P Q R S) (hR' : RectsIs w.heap.size w m' k A B C D) :
    Calls Tryd.prog 49 #[.slice m n cap, .slice m' k cap'] w fun e w' => e = .returned (.int .i64 (rdV P Q R S n A B C D k)) ∧ Below w.heap.size w w' :=
  (specRegionDistance_all m n cap P Q R S m' k cap' A B C D w hn hk hR hR').mono fun e w' ⟨⟨v, h1, h2⟩, h3⟩ => ⟨by rw [h1, rdIs_uniq h2 (rdV_is P Q R S n A B C D k)], h3⟩
theorem implRdV_any (m : Option Addr) (n c : Nat) (P Q R S : Nat → Int) (m' : Option Addr) (k c' : Nat) (A B C D : Nat → Int) (w : World)
    (hn : n ≤ 1048576) (hcap : n ≤ c) (hk : k ≤ 1048576) (hcap' : k ≤ c') (hD : EnvW w) (hR : RectsIs w.heap.size w m n P Q R S) (hR' : RectsIs w.heap.size w m' k A B C D) :
    Calls Tryd.prog 47 #[.slice m n c, .slice m' k c'] w fun e w' => e = .returned (.int .i64 (rdV P Q R S n A B C D k)) ∧ Below w.heap.size w w' :=
  (implRegionDistance_any m n c P Q R S m' k c' A B C D w hn hcap hk hcap' hD hR hR').mono fun e w' ⟨⟨v, h1, h2⟩, h3⟩ => ⟨by rw [h1, rdIs_uniq h2 (rdV_is P Q R S n A B C D k)], h3⟩
end Go.Proofs.YtgccnongfdbalaaDoor
