/- The model's functions of components and holes. Conditions: the rectangles' cells are in memory. -/
import Derived.Test.YtepfnnhmplaocaaDoorCpI
import Derived.Test.YtepfnnhmplaocaaDoorQJ
namespace Go.Proofs.YtepfnnhmplaocaaDoor
open Go.RowKit
set_option linter.unusedVariables false
set_option linter.unusedSimpArgs false
attribute [local go_sem ↓] Go.wp_at_zero Go.wp_at_succ

/-- What Components, ComponentCount, Holes answer. -/
noncomputable def csL (P Q R S : Nat → Int) (n : Nat) : List (List R4) := if okR P Q R S n = true then cmpL (covF P Q R S n) false else []
noncomputable def hsL (P Q R S : Nat → Int) (n : Nat) : List (List R4) := if okR P Q R S n = true then holL (covF P Q R S n) else []
noncomputable def ccV (P Q R S : Nat → Int) (n : Nat) : Int := if okR P Q R S n = true then ((cmpL (covF P Q R S n) false).length : Int) else -1
noncomputable def caL (P Q R S : Nat → Int) (n : Nat) (x y : Int) : List R4 := if (okR P Q R S n && hasB (covF P Q R S n) x y) = true then canonL (partF (covF P Q R S n) false x y) else []
/-- The cells of a list of lists. -/
def covL (l : List R4) (k : Nat) : Bool := covF (pA l) (pB l) (pC l) (pD l) l.length k
def anyF (LL : List (List R4)) (k : Nat) : Bool := LL.any fun l => covL l k
theorem anyF_snoc (LL : List (List R4)) (l : List R4) (k : Nat) : tt 14 (anyF LL k) (covL l k) = anyF (LL ++ [l]) k := by
  unfold anyF
  rw [List.any_append]
  cases (LL.any fun l => covL l k) <;> cases h : covL l k <;> simp [tt, h]
def allCan (LL : List (List R4)) : Prop := ∀ l, l ∈ LL → ∃ g, l = canonL g
theorem cmpL_can (f : Nat → Bool) (wide : Bool) : allCan (cmpL f wide) := fun l hl => by
  unfold cmpL at hl
  obtain ⟨s, _, rfl⟩ := List.mem_map.1 hl
  exact ⟨_, rfl⟩
theorem holL_can (f : Nat → Bool) : allCan (holL f) := fun l hl => by
  unfold holL at hl
  obtain ⟨s, _, rfl⟩ := List.mem_map.1 hl
  exact ⟨_, rfl⟩
theorem csL_can (P Q R S : Nat → Int) (n : Nat) : allCan (csL P Q R S n) := by
  unfold csL; split
  · exact cmpL_can _ _
  · intro l hl; simp at hl
theorem hsL_can (P Q R S : Nat → Int) (n : Nat) : allCan (hsL P Q R S n) := by
  unfold hsL; split
  · exact holL_can _
  · intro l hl; simp at hl
theorem csL_len (P Q R S : Nat → Int) (n : Nat) : (csL P Q R S n).length ≤ 6400 := by
  unfold csL; split
  · exact cmpL_len _ _
  · simp
theorem hsL_len (P Q R S : Nat → Int) (n : Nat) : (hsL P Q R S n).length ≤ 6400 := by
  unfold hsL; split
  · exact holL_len _
  · simp
theorem allCan.valid {LL : List (List R4)} (h : allCan LL) {l : List R4} (hl : l ∈ LL) : ∀ i, i < l.length → rvB (pA l i) (pB l i) (pC l i) (pD l i) = true := by
  obtain ⟨g, rfl⟩ := h l hl
  exact canonL_valid_at g
/-- The i-th list of a list of lists. -/
theorem LsRes.at {LL : List (List R4)} {w : World} {m : Option Addr} {V : List Value} (h : LsAt w V LL) (hc : ∀ (i : Nat) (v : Value), V[i]? = some v → ∃ b, m = some ⟨b, 0, none⟩ ∧ b < w.heap.size ∧ w.cell? ⟨b, i, none⟩ = some v) {i : Nat} {l : List R4} (hl : LL[i]? = some l) :
    ∃ b a c, m = some ⟨b, 0, none⟩ ∧ b < w.heap.size ∧ w.cell? ⟨b, i, none⟩ = some (.slice a l.length c) ∧ l.length ≤ 3280 ∧ RectsL w.heap.size w a l := by
  have hi : i < V.length := by rw [h.1]; exact (List.getElem?_eq_some_iff.1 hl).1
  obtain ⟨v, hv⟩ : ∃ v, V[i]? = some v := ⟨_, List.getElem?_eq_getElem hi⟩
  obtain ⟨a, c, rfl, k1, k2⟩ := h.2 i v l hv hl
  obtain ⟨b, e1, e2, e3⟩ := hc i _ hv
  exact ⟨b, a, c, e1, e2, e3, k1, k2⟩
/-- The lists as a call has handed them back, from any place in memory. -/
def LsIn (w : World) (m : Option Addr) (LL : List (List R4)) : Prop := ∀ (i : Nat) (l : List R4), LL[i]? = some l → ∃ b a c, m = some ⟨b, 0, none⟩ ∧ b < w.heap.size ∧ w.cell? ⟨b, i, none⟩ = some (.slice a l.length c) ∧ l.length ≤ 3280 ∧ RectsL w.heap.size w a l
theorem LsIn.below {w w' : World} {m : Option Addr} {LL : List (List R4)} (h : LsIn w m LL) (hb : Below w.heap.size w w') : LsIn w' m LL := fun i l hl => by
  obtain ⟨b, a, c, h1, h2, h3, h4, h5⟩ := h i l hl
  exact ⟨b, a, c, h1, Nat.lt_of_lt_of_le h2 hb.size, keepC hb h3, h4, RectsIs.ext h5 hb⟩
theorem LsRes.in {LL : List (List R4)} {e : Ending} {w : World} (h : LsRes LL e w) : ∃ m c, e = .returned (.slice m LL.length c) ∧ LsIn w m LL := by
  obtain ⟨m, c, V, he, hA, hc⟩ := h
  exact ⟨m, c, he, fun i l hl => LsRes.at hA hc hl⟩

set_option maxHeartbeats 4000000 in
theorem specComponents_all (m : Option Addr) (n cap : Nat) (P Q R S : Nat → Int) (w : World) (hn : n ≤ 1048576) (hR : RectsIs w.heap.size w m n P Q R S) :
    Calls Tryd.prog 43 #[.slice m n cap] w fun e w' => LsRes (csL P Q R S n) e w' ∧ Below w.heap.size w w' := by
  have HR := Lib.hid hR
  clear hR
  cases hok : okR P Q R S n with
  | false =>
    have e0 : csL P Q R S n = [] := by unfold csL; rw [if_neg (by simp [hok])]
    rw [e0]
    clear e0
    go_enter Tryd.func43, Tryd.ntmps43
    go_wp2_with fail
    refine (l03Ok_any m n cap P Q R S _ hn HR.out).mono ?_
    rintro e w1 ⟨rfl, bw1⟩
    rw [hok]
    go_wp2_with fail
    go_ret
    exact ⟨LsRes.nil rfl, bw1⟩
  | true =>
    have e0 : csL P Q R S n = cmpL (covF P Q R S n) false := by unfold csL; rw [if_pos hok]
    rw [e0]
    clear e0
    have HK := Lib.hid hok
    go_enter Tryd.func43, Tryd.ntmps43
    go_wp2_with fail
    refine (l03Ok_any m n cap P Q R S _ hn HR.out).mono ?_
    rintro e w1 ⟨rfl, bw1⟩
    rw [hok]
    go_wp2_with fail
    refine (l07Components_any m n cap P Q R S _ hn (HR.out.ext bw1) HK.out).mono ?_
    rintro e w2 ⟨⟨m2, c2, V, rfl, h1, h2⟩, bw2⟩
    have H1 := Lib.hid h1
    have H2 := Lib.hid h2
    clear h1 h2
    go_wp2_with fail
    go_ret
    exact ⟨⟨m2, c2, V, rfl, H1.out, H2.out⟩, Ext.trans bw1 bw2⟩
set_option maxHeartbeats 4000000 in
theorem specHoles_all (m : Option Addr) (n cap : Nat) (P Q R S : Nat → Int) (w : World) (hn : n ≤ 1048576) (hR : RectsIs w.heap.size w m n P Q R S) :
    Calls Tryd.prog 28 #[.slice m n cap] w fun e w' => LsRes (hsL P Q R S n) e w' ∧ Below w.heap.size w w' := by
  have HR := Lib.hid hR
  clear hR
  cases hok : okR P Q R S n with
  | false =>
    have e0 : hsL P Q R S n = [] := by unfold hsL; rw [if_neg (by simp [hok])]
    rw [e0]
    clear e0
    go_enter Tryd.func28, Tryd.ntmps28
    go_wp2_with fail
    refine (l03Ok_any m n cap P Q R S _ hn HR.out).mono ?_
    rintro e w1 ⟨rfl, bw1⟩
    rw [hok]
    go_wp2_with fail
    go_ret
    exact ⟨LsRes.nil rfl, bw1⟩
  | true =>
    have e0 : hsL P Q R S n = holL (covF P Q R S n) := by unfold hsL; rw [if_pos hok]
    rw [e0]
    clear e0
    have HK := Lib.hid hok
    go_enter Tryd.func28, Tryd.ntmps28
    go_wp2_with fail
    refine (l03Ok_any m n cap P Q R S _ hn HR.out).mono ?_
    rintro e w1 ⟨rfl, bw1⟩
    rw [hok]
    go_wp2_with fail
    refine (l07Holes_any m n cap P Q R S _ hn (HR.out.ext bw1) HK.out).mono ?_
    rintro e w2 ⟨⟨m2, c2, V, rfl, h1, h2⟩, bw2⟩
    have H1 := Lib.hid h1
    have H2 := Lib.hid h2
    clear h1 h2
    go_wp2_with fail
    go_ret
    exact ⟨⟨m2, c2, V, rfl, H1.out, H2.out⟩, Ext.trans bw1 bw2⟩
set_option maxHeartbeats 4000000 in
theorem specComponentCount_any (m : Option Addr) (n cap : Nat) (P Q R S : Nat → Int) (w : World) (hn : n ≤ 1048576) (hR : RectsIs w.heap.size w m n P Q R S) :
    Calls Tryd.prog 27 #[.slice m n cap] w fun e w' => e = .returned (.int .i64 (ccV P Q R S n)) ∧ Below w.heap.size w w' := by
  have HR := Lib.hid hR
  clear hR
  cases hok : okR P Q R S n with
  | false =>
    have e0 : ccV P Q R S n = -1 := by unfold ccV; rw [if_neg (by simp [hok])]
    rw [e0]
    clear e0
    go_enter Tryd.func27, Tryd.ntmps27
    go_wp2_with fail
    refine (l03Ok_any m n cap P Q R S _ hn HR.out).mono ?_
    rintro e w1 ⟨rfl, bw1⟩
    rw [hok]
    go_wp2_with fail
    go_ret
    exact ⟨rfl, bw1⟩
  | true =>
    have e0 : ccV P Q R S n = ((cmpL (covF P Q R S n) false).length : Int) := by unfold ccV; rw [if_pos hok]
    rw [e0]
    clear e0
    have HK := Lib.hid hok
    have hcl := cmpL_len (covF P Q R S n) false
    obtain ⟨f, hf⟩ : ∃ f, covF P Q R S n = f := ⟨_, rfl⟩
    rw [hf] at hcl ⊢
    have HFF := Lib.hid hf
    clear hf
    go_enter Tryd.func27, Tryd.ntmps27
    go_wp2_with fail
    refine (l03Ok_any m n cap P Q R S _ hn HR.out).mono ?_
    rintro e w1 ⟨rfl, bw1⟩
    rw [hok]
    go_wp2_with fail
    refine (l07Components_any m n cap P Q R S _ hn (HR.out.ext bw1) HK.out).mono ?_
    rintro e w2 ⟨⟨m2, c2, V, rfl, h1, h2⟩, bw2⟩
    rw [HFF.out]
    clear h1 h2
    go_wp2_with fail
    go_ret
    exact ⟨rfl, Ext.trans bw1 bw2⟩
set_option maxHeartbeats 4000000 in
theorem specIsConnected_any (m : Option Addr) (n cap : Nat) (P Q R S : Nat → Int) (w : World) (hn : n ≤ 1048576) (hR : RectsIs w.heap.size w m n P Q R S) :
    Calls Tryd.prog 50 #[.slice m n cap] w fun e w' => e = .returned (.bool (ccV P Q R S n == 1)) ∧ Below w.heap.size w w' := by
  have HR := Lib.hid hR
  clear hR
  obtain ⟨v, hv⟩ : ∃ v, ccV P Q R S n = v := ⟨_, rfl⟩
  have HV := Lib.hid hv
  rw [hv]
  clear hv
  go_enter Tryd.func50, Tryd.ntmps50
  go_wp2_with fail
  refine (specComponentCount_any m n cap P Q R S _ hn HR.out).mono ?_
  rintro e w1 ⟨rfl, bw1⟩
  rw [HV.out]
  go_wp2_with fail
  go_ret
  exact ⟨rfl, bw1⟩
set_option maxHeartbeats 4000000 in
theorem specComponentAt_all (m : Option Addr) (n cap : Nat) (P Q R S : Nat → Int) (x y : Int) (w : World) (hn : n ≤ 1048576) (hR : RectsIs w.heap.size w m n P Q R S) :
    Calls Tryd.prog 48 #[.slice m n cap, .int .i64 x, .int .i64 y] w fun e w' => LRes (caL P Q R S n x y) e w' ∧ Below w.heap.size w w' := by
  have HR := Lib.hid hR
  clear hR
  cases hok : okR P Q R S n with
  | false =>
    have e0 : caL P Q R S n x y = [] := by unfold caL; rw [if_neg (by simp [hok])]
    rw [e0]
    clear e0
    go_enter Tryd.func48, Tryd.ntmps48
    go_wp2_with (go_at_call 56; refine (l03Ok_any m n cap P Q R S _ hn HR.out).mono ?_; rintro e w1 ⟨rfl, bw1⟩; rw [hok])
    go_ret
    exact ⟨⟨none, 0, rfl, RectsL.nil _ _ _⟩, bw1⟩
  | true =>
    have HK := Lib.hid (okR_all hok)
    obtain ⟨f, hf⟩ : ∃ f, covF P Q R S n = f := ⟨_, rfl⟩
    have HFF := Lib.hid hf
    cases hh : hasB f x y with
    | false =>
      have e0 : caL P Q R S n x y = [] := by unfold caL; rw [hf, hok, hh, if_neg (by simp)]
      rw [e0]
      clear e0 hf
      go_enter Tryd.func48, Tryd.ntmps48
      go_wp2_with (first | (go_at_call 56; refine (l03Ok_any m n cap P Q R S _ hn HR.out).mono ?_; rintro e w1 ⟨rfl, bw1⟩; rw [hok]) | (go_at_call 57; refine (l03Bits_any m n cap P Q R S _ hn (HR.out.ext bw1) HK.out).mono ?_; rintro e w2 ⟨⟨g, rfl, hg, hB⟩, bw2⟩; rw [HFF.out] at hB; have HB := Lib.hid hB; clear hB) | (go_at_call 59; refine (l03Has_any g 6400 f x y _ HB.out).mono ?_; rintro e w3 ⟨rfl, rfl⟩; rw [hh]))
      go_ret
      exact ⟨⟨none, 0, rfl, RectsL.nil _ _ _⟩, Ext.trans bw1 bw2⟩
    | true =>
      have e0 : caL P Q R S n x y = canonL (partF f false x y) := by unfold caL; rw [hf, hok, hh]; rfl
      rw [e0]
      obtain ⟨l, hl⟩ : ∃ l, canonL (partF f false x y) = l := ⟨_, rfl⟩
      rw [hl]
      have HLL := Lib.hid hl
      have HH := Lib.hid hh
      clear e0 hf hl
      go_enter Tryd.func48, Tryd.ntmps48
      go_wp2_with (first | (go_at_call 56; refine (l03Ok_any m n cap P Q R S _ hn HR.out).mono ?_; rintro e w1 ⟨rfl, bw1⟩; rw [hok]) | (have k2 := bw2; clear k2; go_at_call 57; refine (l03Bits_any m n cap P Q R S _ hn (HR.out.ext (Ext.trans bw1 bw2)) HK.out).mono ?_; rintro e w4 ⟨⟨g4, rfl, hg4, hB4⟩, bw4⟩; rw [HFF.out] at hB4; have HB4 := Lib.hid hB4; clear hB4) | (go_at_call 57; refine (l03Bits_any m n cap P Q R S _ hn (HR.out.ext bw1) HK.out).mono ?_; rintro e w2 ⟨⟨g, rfl, hg, hB⟩, bw2⟩; rw [HFF.out] at hB; have HB := Lib.hid hB; clear hB) | (go_at_call 59; refine (l03Has_any g 6400 f x y _ HB.out).mono ?_; rintro e w3 ⟨rfl, rfl⟩; rw [hh]) | (go_at_call 90; refine (l07Flood_any g4 6400 f x y false _ HB4.out HH.out).mono ?_; rintro e w5 ⟨⟨g5, rfl, hg5, hB5⟩, bw5⟩; have HB5 := Lib.hid hB5; clear hB5) | (go_at_call 69; refine (l03Canon_any g5 6400 _ _ HB5.out).mono ?_; rintro e w6 ⟨⟨h6, c6, rfl, hI⟩, bw6⟩; rw [HLL.out] at hI ⊢; have HI := Lib.hid hI.rects; clear hI))
      go_ret
      exact ⟨⟨_, c6, rfl, HI.out⟩, Ext.trans (Ext.trans (Ext.trans (Ext.trans bw1 bw2) bw4) bw5) bw6⟩

/-- The areas of the lists; the greatest so far. -/
noncomputable def cntL (l : List R4) : Int := cntF (covL l) 6400
def biggest (LL : List (List R4)) (a : List R4 → Int) : Nat → Option Nat
  | 0 => none
  | i + 1 => match biggest LL a i with
    | none => some i
    | some j => if a (LL.getD i []) > a (LL.getD j []) then some i else some j
theorem biggest_lt {LL : List (List R4)} {a : List R4 → Int} : ∀ {i j : Nat}, biggest LL a i = some j → j < i
  | 0, j, h => by simp [biggest] at h
  | i + 1, j, h => by
    rw [biggest] at h
    cases hb : biggest LL a i with
    | none => rw [hb] at h; simp at h; omega
    | some k =>
      have := biggest_lt hb
      rw [hb] at h
      simp only at h
      split at h
      · have := Option.some.inj h; omega
      · have := Option.some.inj h; omega
noncomputable def lgL (LL : List (List R4)) : List R4 := match biggest LL cntL LL.length with
  | none => []
  | some j => LL.getD j []
theorem lgetD {LL : List (List R4)} {i : Nat} (h : i < LL.length) : LL[i]? = some (LL.getD i []) := by
  rw [List.getD, List.getElem?_eq_getElem h]; rfl
set_option maxHeartbeats 8000000 in
set_option maxRecDepth 100000 in
theorem specLargestComponent_all (m : Option Addr) (n cap : Nat) (P Q R S : Nat → Int) (w : World) (hn : n ≤ 1048576) (hR : RectsIs w.heap.size w m n P Q R S) :
    Calls Tryd.prog 51 #[.slice m n cap] w fun e w' => LRes (lgL (csL P Q R S n)) e w' ∧ Below w.heap.size w w' := by
  have HR := Lib.hid hR
  have hcan := csL_can P Q R S n
  have hlen := csL_len P Q R S n
  clear hR
  have hspec := fun w' hR' => specComponents_all m n cap P Q R S w' hn hR'
  obtain ⟨LL, hLL⟩ : ∃ LL, csL P Q R S n = LL := ⟨_, rfl⟩
  rw [hLL] at hcan hlen hspec ⊢
  have HC := Lib.hid hcan
  clear hLL hcan
  go_enter Tryd.func51, Tryd.ntmps51
  go_wp2_with fail
  refine (hspec _ HR.out).mono ?_
  rintro e w1 ⟨hres, bw1⟩
  obtain ⟨m1, c1, rfl, hin⟩ := hres.in
  have HIN := Lib.hid hin
  clear hres hin hspec
  go_wp2_with fail
  go_loopw [4, 5] (fun s3 s4 wr => ∃ i : Nat, i ≤ LL.length ∧ s4 = .int .i64 (i : Nat) ∧ s3 = .int .i64 (match biggest LL cntL i with | none => -1 | some j => (j : Int)) ∧ Hid (Below w1.heap.size w1 wr)) (fun _ s4 _ => LL.length - (intOf s4).toNat)
  case atStart => exact ⟨0, by omega, rfl, rfl, Lib.hid (Below.refl _ _)⟩
  case round =>
    obtain ⟨i, hil, rfl, rfl, HW⟩ := hrel
    by_cases hlt : i < LL.length
    case neg =>
      obtain rfl : i = LL.length := by omega
      have q1 : ¬ ((LL.length : Nat) : Int) < (LL.length : Int) := by omega
      cases hb : biggest LL cntL LL.length with
      | none =>
        have HL : Hid (lgL LL = []) := Lib.hid (by unfold lgL; rw [hb])
        clear hb
        go_wp2_with fail
        go_ret
        exact ⟨⟨none, 0, by rw [HL.out]; rfl, by rw [HL.out]; exact RectsL.nil _ _ _⟩, Ext.trans bw1 HW.out⟩
      | some j =>
        have hj := biggest_lt hb
        have HL : Hid (lgL LL = LL.getD j []) := Lib.hid (by unfold lgL; rw [hb])
        obtain ⟨b, a, c, rfl, hb1, hb2, hb3, hb4⟩ := HIN.out j _ (lgetD hj)
        obtain ⟨l, hl⟩ : ∃ l, LL.getD j [] = l := ⟨_, rfl⟩
        rw [hl] at HL hb2 hb3 hb4
        have k2 := keepC HW.out hb2
        have HR2 := Lib.hid (RectsIs.ext hb4 HW.out)
        have q2 : ¬ (j : Int) < 0 := by omega
        have q3 : (j : Int) < (LL.length : Int) := by omega
        have q4 : (0 : Int) ≤ (j : Int) := by omega
        clear hb hl hb4 hb2
        go_wp2_with fail
        go_ret
        exact ⟨⟨a, c, by rw [HL.out]; rfl, by rw [HL.out]; exact HR2.out⟩, Ext.trans bw1 HW.out⟩
    have q1 : ((i : Nat) : Int) < (LL.length : Int) := by omega
    have q0 : (0 : Int) ≤ ((i : Nat) : Int) := by omega
    obtain ⟨b, a, c, rfl, hb1, hb2, hb3, hb4⟩ := HIN.out i _ (lgetD hlt)
    have hv := HC.out.valid (List.mem_of_getElem? (lgetD hlt))
    have hB0 : biggest LL cntL (i + 1) = match biggest LL cntL i with | none => some i | some j => if cntL (LL.getD i []) > cntL (LL.getD j []) then some i else some j := rfl
    obtain ⟨l, hl⟩ : ∃ l, LL.getD i [] = l := ⟨_, rfl⟩
    rw [hl] at hb2 hb3 hb4 hv hB0
    have k2 := keepC HW.out hb2
    have HRI := Lib.hid (RectsIs.ext hb4 HW.out)
    have HV := Lib.hid hv
    have hcd := cntF_bd (covL l) 6400
    have hln : l.length ≤ 1048576 := by omega
    clear hb2 hb4 hv hl
    cases hb : biggest LL cntL i with
    | none =>
      rw [hb] at hB0
      have HB0 := Lib.hid hB0
      clear hB0 hb
      go_upto_region 6 with fail
      go_quiet (fail)
      go_wp2_with fail
      go_roundw
      case rel => exact ⟨i + 1, by omega, by go_num, by rw [HB0.out], Lib.hid (by first | exact HW.out | exact Ext.drewN HW.out _)⟩
      case measure => simp [intOf]; omega
    | some j =>
      have hj := biggest_lt hb
      rw [hb] at hB0
      dsimp only at hB0
      have hjl : j < LL.length := by omega
      obtain ⟨b', a', c', e', hb1', hb2', hb3', hb4'⟩ := HIN.out j _ (lgetD hjl)
      cases e'
      have hv' := HC.out.valid (List.mem_of_getElem? (lgetD hjl))
      obtain ⟨l', hl'⟩ : ∃ l', LL.getD j [] = l' := ⟨_, rfl⟩
      rw [hl'] at hb2' hb3' hb4' hv' hB0
      have k2' := keepC HW.out hb2'
      have HRJ := Lib.hid (RectsIs.ext hb4' HW.out)
      have HV' := Lib.hid hv'
      have hcd' := cntF_bd (covL l') 6400
      have hln' : l'.length ≤ 1048576 := by omega
      have q2 : ¬ (j : Int) < 0 := by omega
      have q3 : (j : Int) < (LL.length : Int) := by omega
      have q4 : (0 : Int) ≤ (j : Int) := by omega
      have HB0 := Lib.hid hB0
      have hbi := fun w' hR' => l03Bits_any a l.length c (pA l) (pB l) (pC l) (pD l) w' hln hR' HV.out
      have hbj := fun w' hR' => l03Bits_any a' l'.length c' (pA l') (pB l') (pC l') (pD l') w' hln' hR' HV'.out
      obtain ⟨x, hx⟩ : ∃ x, cntL l = x := ⟨_, rfl⟩
      obtain ⟨y, hy⟩ : ∃ y, cntL l' = y := ⟨_, rfl⟩
      have hx' : cntF (covF (pA l) (pB l) (pC l) (pD l) l.length) 6400 = x := hx
      have hy' : cntF (covF (pA l') (pB l') (pC l') (pD l') l'.length) 6400 = y := hy
      have hxb : 0 ≤ x ∧ x ≤ 6400 := by rw [← hx]; exact hcd
      have hyb : 0 ≤ y ∧ y ≤ 6400 := by rw [← hy]; exact hcd'
      rw [hx, hy] at HB0
      have HX := Lib.hid hx'
      have HY := Lib.hid hy'
      clear hB0 hb hb2' hb4' hv' hl' hx hy hx' hy' hcd hcd'
      by_cases hgt : x > y
      · have q5 : y < x := hgt
        rw [if_pos hgt] at HB0
        go_upto_region 6 with fail
        go_region_held3 (fun w' => Below wr.heap.size wr w' ∧ w'.cell? ⟨b, i, none⟩ = some (.slice a l.length c) ∧ w'.cell? ⟨b, j, none⟩ = some (.slice a' l'.length c'))
          (first | ((try dsimp only); go_split_ands; (repeat' (with_reducible refine And.intro ?_ ?_)) <;> first | ((repeat (with_reducible refine keepS ?_ (by simp; try omega) _)); (first | (with_reducible assumption) | (with_reducible exact keepC (by assumption) (by assumption)) | (with_reducible exact keepA (by assumption) _) | (with_reducible exact keepR (by assumption) (by omega) _))) | ((try simp only [World.size_alloc, World.size_setCell, World.size_drew]); omega) | (refine Mats.below hM ?_ hM.size; (repeat (first | (with_reducible exact Below.refl _ _) | (with_reducible refine Ext.drewN ?_ _) | (with_reducible refine Below.drew ?_) | (with_reducible refine Ext.alloc ?_ _) | (with_reducible refine Ext.setCell ?_ (by simp; try omega) _) | (with_reducible refine Ext.trans ?_ (by assumption)) | (with_reducible assumption) | exact Below.refl _ _)); done) | ((repeat (first | (with_reducible exact Below.refl _ _) | (with_reducible refine Ext.drewN ?_ _) | (with_reducible refine Below.drew ?_) | (with_reducible refine Ext.alloc ?_ _) | (with_reducible refine Ext.setCell ?_ (by simp; try omega) _) | (with_reducible refine Ext.trans ?_ (by assumption)) | (with_reducible assumption) | exact Below.refl _ _)); done) | (go_keep; done)))
          (first | (have k3 := HB3; clear k3; go_at_call 91; refine (l03Count_any g3 6400 _ _ HB3.out).mono ?_; rintro e w5 ⟨rfl, bw5⟩; rw [HY.out]) | (go_at_call 91; refine (l03Count_any g2 6400 _ _ HB2.out).mono ?_; rintro e w4 ⟨rfl, bw4⟩; rw [HX.out]) | (have k2 := HB2; clear k2; go_at_call 57; refine (hbj _ (HRJ.out.ext (by (repeat (first | (with_reducible exact Below.refl _ _) | (with_reducible refine Ext.drewN ?_ _) | (with_reducible refine Below.drew ?_) | (with_reducible refine Ext.alloc ?_ _) | (with_reducible refine Ext.setCell ?_ (by simp; try omega) _) | (with_reducible refine Ext.trans ?_ (by assumption)) | (with_reducible assumption) | exact Below.refl _ _))))).mono ?_; rintro e w3 ⟨⟨g3, rfl, hg3, hB3⟩, bw3⟩; have HB3 := Lib.hid hB3; clear hB3) | (go_at_call 57; refine (hbi _ (HRI.out.ext (by (repeat (first | (with_reducible exact Below.refl _ _) | (with_reducible refine Ext.drewN ?_ _) | (with_reducible refine Below.drew ?_) | (with_reducible refine Ext.alloc ?_ _) | (with_reducible refine Ext.setCell ?_ (by simp; try omega) _) | (with_reducible refine Ext.trans ?_ (by assumption)) | (with_reducible assumption) | exact Below.refl _ _))))).mono ?_; rintro e w2 ⟨⟨g2, rfl, hg2, hB2⟩, bw2⟩; have HB2 := Lib.hid hB2; clear hB2))
        all_goals
          have B5 : Below wr.heap.size wr w5 := by (repeat (first | (with_reducible exact Below.refl _ _) | (with_reducible refine Ext.drewN ?_ _) | (with_reducible refine Below.drew ?_) | (with_reducible refine Ext.alloc ?_ _) | (with_reducible refine Ext.setCell ?_ (by simp; try omega) _) | (with_reducible refine Ext.trans ?_ (by assumption)) | (with_reducible assumption) | exact Below.refl _ _))
          have HW5 := Lib.hid (Ext.trans HW.out B5)
          go_wp2_with fail
          go_roundw
          case rel => exact ⟨i + 1, by omega, by go_num, by rw [HB0.out], Lib.hid (by first | exact HW5.out | exact Ext.drewN HW5.out _ | exact HW5.out.drew)⟩
          case measure => simp [intOf]; omega
      · have q5 : ¬ y < x := hgt
        rw [if_neg hgt] at HB0
        go_upto_region 6 with fail
        go_region_held3 (fun w' => Below wr.heap.size wr w' ∧ w'.cell? ⟨b, i, none⟩ = some (.slice a l.length c) ∧ w'.cell? ⟨b, j, none⟩ = some (.slice a' l'.length c'))
          (first | ((try dsimp only); go_split_ands; (repeat' (with_reducible refine And.intro ?_ ?_)) <;> first | ((repeat (with_reducible refine keepS ?_ (by simp; try omega) _)); (first | (with_reducible assumption) | (with_reducible exact keepC (by assumption) (by assumption)) | (with_reducible exact keepA (by assumption) _) | (with_reducible exact keepR (by assumption) (by omega) _))) | ((try simp only [World.size_alloc, World.size_setCell, World.size_drew]); omega) | (refine Mats.below hM ?_ hM.size; (repeat (first | (with_reducible exact Below.refl _ _) | (with_reducible refine Ext.drewN ?_ _) | (with_reducible refine Below.drew ?_) | (with_reducible refine Ext.alloc ?_ _) | (with_reducible refine Ext.setCell ?_ (by simp; try omega) _) | (with_reducible refine Ext.trans ?_ (by assumption)) | (with_reducible assumption) | exact Below.refl _ _)); done) | ((repeat (first | (with_reducible exact Below.refl _ _) | (with_reducible refine Ext.drewN ?_ _) | (with_reducible refine Below.drew ?_) | (with_reducible refine Ext.alloc ?_ _) | (with_reducible refine Ext.setCell ?_ (by simp; try omega) _) | (with_reducible refine Ext.trans ?_ (by assumption)) | (with_reducible assumption) | exact Below.refl _ _)); done) | (go_keep; done)))
          (first | (have k3 := HB3; clear k3; go_at_call 91; refine (l03Count_any g3 6400 _ _ HB3.out).mono ?_; rintro e w5 ⟨rfl, bw5⟩; rw [HY.out]) | (go_at_call 91; refine (l03Count_any g2 6400 _ _ HB2.out).mono ?_; rintro e w4 ⟨rfl, bw4⟩; rw [HX.out]) | (have k2 := HB2; clear k2; go_at_call 57; refine (hbj _ (HRJ.out.ext (by (repeat (first | (with_reducible exact Below.refl _ _) | (with_reducible refine Ext.drewN ?_ _) | (with_reducible refine Below.drew ?_) | (with_reducible refine Ext.alloc ?_ _) | (with_reducible refine Ext.setCell ?_ (by simp; try omega) _) | (with_reducible refine Ext.trans ?_ (by assumption)) | (with_reducible assumption) | exact Below.refl _ _))))).mono ?_; rintro e w3 ⟨⟨g3, rfl, hg3, hB3⟩, bw3⟩; have HB3 := Lib.hid hB3; clear hB3) | (go_at_call 57; refine (hbi _ (HRI.out.ext (by (repeat (first | (with_reducible exact Below.refl _ _) | (with_reducible refine Ext.drewN ?_ _) | (with_reducible refine Below.drew ?_) | (with_reducible refine Ext.alloc ?_ _) | (with_reducible refine Ext.setCell ?_ (by simp; try omega) _) | (with_reducible refine Ext.trans ?_ (by assumption)) | (with_reducible assumption) | exact Below.refl _ _))))).mono ?_; rintro e w2 ⟨⟨g2, rfl, hg2, hB2⟩, bw2⟩; have HB2 := Lib.hid hB2; clear hB2))
        all_goals
          have B5 : Below wr.heap.size wr w5 := by (repeat (first | (with_reducible exact Below.refl _ _) | (with_reducible refine Ext.drewN ?_ _) | (with_reducible refine Below.drew ?_) | (with_reducible refine Ext.alloc ?_ _) | (with_reducible refine Ext.setCell ?_ (by simp; try omega) _) | (with_reducible refine Ext.trans ?_ (by assumption)) | (with_reducible assumption) | exact Below.refl _ _))
          have HW5 := Lib.hid (Ext.trans HW.out B5)
          go_wp2_with fail
          go_roundw
          case rel => exact ⟨i + 1, by omega, by go_num, by rw [HB0.out], Lib.hid (by first | exact HW5.out | exact Ext.drewN HW5.out _ | exact HW5.out.drew)⟩
          case measure => simp [intOf]; omega
end Go.Proofs.YtepfnnhmplaocaaDoor
