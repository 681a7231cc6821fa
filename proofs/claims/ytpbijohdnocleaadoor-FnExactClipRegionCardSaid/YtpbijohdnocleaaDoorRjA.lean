/- The program's ClipRegion. Conditions: the elements' cells are in memory; the variables that regions read hold their tables. -/
import Derived.Test.YtpbijohdnocleaaDoorRgQ
import Derived.Test.YtpbijohdnocleaaDoorRiY
import Derived.Test.YtpbijohdnocleaaDoorDebTab
namespace Go.Proofs.YtpbijohdnocleaaDoor
open Go.RowKit Go.Shelf
set_option linter.unusedVariables false
set_option linter.unusedSimpArgs false

theorem own_cap {w : World} {B n c : Nat} {a : Option Addr} {xs : List Value} (h : w.ownsRow B 36 4 (.slice a n c) n xs) : n ≤ c := by
  rcases h.2 with ⟨e, h0⟩ | ⟨g, cap, cur, e, _, _, h3, _⟩
  · omega
  · cases e
    exact h3
/-- The parts of the first rectangles that lie in a box. -/
def ixL (P Q R S : Nat → Int) (a b c d : Int) : Nat → List R4
  | 0 => []
  | i + 1 => ixL P Q R S a b c d i ++ if ovB (P i) (Q i) (R i) (S i) a b c d = true then [R4.mk (hi2 (P i) a) (hi2 (Q i) b) (lo2 (R i) c) (lo2 (S i) d)] else []
theorem ixL_len (P Q R S : Nat → Int) (a b c d : Int) : ∀ i, (ixL P Q R S a b c d i).length ≤ i
  | 0 => Nat.le_refl _
  | i + 1 => by
    have h := ixL_len P Q R S a b c d i
    unfold ixL
    rw [List.length_append]
    split <;> simp <;> omega
theorem ixL_ok (P Q R S : Nat → Int) (a b c d : Int) : ∀ i r, r ∈ ixL P Q R S a b c d i → rvB r.a r.b r.c r.d = true
  | 0, r, h => by simp [ixL] at h
  | i + 1, r, h => by
    unfold ixL at h
    rw [List.mem_append] at h
    rcases h with h | h
    · exact ixL_ok P Q R S a b c d i r h
    · split at h
      · rename_i hov
        rw [List.mem_singleton] at h
        subst h
        unfold ovB at hov
        simp only [Bool.and_eq_true] at hov
        rw [ov_meet hov.1 hov.2.1]
        exact hov.2.2
      · simp at h
/-- The box has the cell. -/
def inBx (a b c d x y : Int) : Bool := decide (a ≤ x) && decide (x < c) && decide (b ≤ y) && decide (y < d)
theorem ixL_in (P Q R S : Nat → Int) (a b c d x y : Int) (hb : rvB a b c d = true) : ∀ i, (∀ k, k < i → rvB (P k) (Q k) (R k) (S k) = true) → inR (ixL P Q R S a b c d i) x y = (covB P Q R S x y i && inBx a b c d x y)
  | 0, _ => by simp [ixL, inR, covB]
  | i + 1, hv => by
    have ih := ixL_in P Q R S a b c d x y hb i (fun k hk => hv k (by omega))
    have hvi := hv i (by omega)
    have h1 := hi2_bd (P i) a
    have h2 := hi2_bd (Q i) b
    have h3 := lo2_bd (R i) c
    have h4 := lo2_bd (S i) d
    unfold ixL
    rw [inR_append, ih, covB, Bool.and_or_distrib_right]
    congr 1
    unfold ovB inBx
    rw [hvi, hb, Bool.true_and, Bool.true_and, Bool.eq_iff_iff]
    by_cases ho : hi2 (P i) a < lo2 (R i) c ∧ hi2 (Q i) b < lo2 (S i) d
    · rw [if_pos (by simpa using ho)]
      simp only [inR, List.any_cons, List.any_nil, Bool.or_false, Bool.and_eq_true, decide_eq_true_eq]
      omega
    · rw [if_neg (by simpa using ho)]
      simp only [inR, List.any_nil, Bool.and_eq_true, decide_eq_true_eq, Bool.false_eq_true, false_iff]
      omega
theorem covB_inR (l : List R4) (x y : Int) : covB (pA l) (pB l) (pC l) (pD l) x y l.length = inR l x y := by
  rw [Bool.eq_iff_iff, covB_t]
  unfold inR
  rw [List.any_eq_true]
  constructor
  · rintro ⟨i, hi, h1, h2, h3, h4⟩
    have hg := getD_get hi
    refine ⟨_, List.mem_of_getElem? hg, ?_⟩
    simp only [Bool.and_eq_true, decide_eq_true_eq]
    exact ⟨⟨⟨h1, h2⟩, h3⟩, h4⟩
  · rintro ⟨r, hr, h⟩
    obtain ⟨i, hi, he⟩ := List.getElem_of_mem hr
    simp only [Bool.and_eq_true, decide_eq_true_eq] at h
    have hg := getD_get hi
    rw [List.getElem?_eq_getElem hi, he] at hg
    have e := Option.some.inj hg
    refine ⟨i, hi, ?_⟩
    unfold pA pB pC pD
    rw [← e]
    exact ⟨h.1.1.1, h.1.1.2, h.1.2, h.2⟩
theorem okV_list (l : List R4) (hl : l.length ≤ 3200) (h : ∀ r, r ∈ l → rvB r.a r.b r.c r.d = true) : okV (pA l) (pB l) (pC l) (pD l) l.length = true := by
  unfold okV
  rw [decide_eq_true hl, Bool.true_and]
  refine allV_t fun i hi => ?_
  have hg := getD_get hi
  exact h _ (List.mem_of_getElem? hg)
/-- The region of a list of valid rectangles that covers the set. -/
theorem roL_of (l : List R4) (f : Nat → Bool) (hl : l.length ≤ 3200) (h : ∀ r, r ∈ l → rvB r.a r.b r.c r.d = true) (hc : ∀ x y, -40 ≤ x → x ≤ 39 → -40 ≤ y → y ≤ 39 → inR l x y = hasB f x y) : roL (pA l) (pB l) (pC l) (pD l) l.length = canonL f := by
  have ho := okV_list l hl h
  unfold roL
  rw [if_pos ho]
  refine canonL_same fun x y h1 h2 h3 h4 => ?_
  rw [hasB_cov (okV_all ho), covB_inR]
  exact hc x y h1 h2 h3 h4
theorem ixL_ro {P Q R S : Nat → Int} {n : Nat} {a b c d : Int} (hok : okR P Q R S n = true) (hb : rvB a b c d = true) (hn : n ≤ 3200) :
    roL (pA (ixL P Q R S a b c d n)) (pB (ixL P Q R S a b c d n)) (pC (ixL P Q R S a b c d n)) (pD (ixL P Q R S a b c d n)) (ixL P Q R S a b c d n).length = clL P Q R S n a b c d := by
  unfold clL
  rw [hok, hb, if_pos (by rfl)]
  have := ixL_len P Q R S a b c d n
  refine roL_of _ _ (by omega) (fun r hr => ixL_ok P Q R S a b c d n r hr) (fun x y h1 h2 h3 h4 => ?_)
  rw [ixL_in P Q R S a b c d x y hb n (okR_all hok), hasB_clip _ _ _ _ _ _ _ ⟨⟨h1, h2⟩, h3, h4⟩, hasB_cov (okR_all hok)]
  rfl
set_option maxRecDepth 100000 in
set_option maxHeartbeats 8000000 in
theorem clipRegion_any (m : Option Addr) (n cap : Nat) (P Q R S : Nat → Int) (p q r s : Int) (w : World) (hn : n ≤ 1048576) (hcap : n ≤ cap) (hD : EnvW w) (hR : RectsIs w.heap.size w m n P Q R S) :
    Calls Tryd.prog 42 #[.slice m n cap, .agg #[.int .i64 p, .int .i64 q, .int .i64 r, .int .i64 s]] w fun e w' => LOwn w.heap.size (clL P Q R S n p q r s) e w' ∧ Below w.heap.size w w' := by
  obtain ⟨i0, hi, hz0, hz1, hz2⟩ := info_parts Tryd.infoR
  cases hok : okR P Q R S n with
  | false =>
    have e0 : clL P Q R S n p q r s = [] := by unfold clL; rw [hok]; rfl
    rw [e0]
    clear e0
    go_enter Tryd.func42, Tryd.ntmps42
    go_wp2_with fail
    go_call (isRegion_any m n cap P Q R S _ hn hcap (hD.ext (by (repeat (first | (with_reducible exact Below.refl _ _) | (with_reducible refine Ext.drewN ?_ _) | (with_reducible refine Below.drew ?_) | (with_reducible refine Ext.alloc ?_ _) | (with_reducible refine Ext.setCell ?_ (by simp; try omega) _) | (with_reducible refine Ext.trans ?_ (by assumption)) | (with_reducible assumption) | exact Below.refl _ _)))) (hR.ext (by (repeat (first | (with_reducible exact Below.refl _ _) | (with_reducible refine Ext.drewN ?_ _) | (with_reducible refine Below.drew ?_) | (with_reducible refine Ext.alloc ?_ _) | (with_reducible refine Ext.setCell ?_ (by simp; try omega) _) | (with_reducible refine Ext.trans ?_ (by assumption)) | (with_reducible assumption) | exact Below.refl _ _))))) as e w1 ⟨rfl, bw1⟩
    obtain ⟨sw1, zw1, cw1, fw1⟩ := bcell bw1
    try simp only [World.size_alloc, World.size_setCell, World.size_drew] at sw1
    try have lw1_w_0 : w.heap.size < w1.heap.size := by omega
    try have lw1_w_1 : w.heap.size + 1 < w1.heap.size := by omega
    try have lw1_w_2 : w.heap.size + 1 + 1 < w1.heap.size := by omega
    try have lw1_w_3 : w.heap.size + 1 + 1 + 1 < w1.heap.size := by omega
    try have lw1_w_4 : w.heap.size + 1 + 1 + 1 + 1 < w1.heap.size := by omega
    try have lw1_w_5 : w.heap.size + 1 + 1 + 1 + 1 + 1 < w1.heap.size := by omega
    try have lw1_w_6 : w.heap.size + 1 + 1 + 1 + 1 + 1 + 1 < w1.heap.size := by omega
    rw [hok]
    go_wp2_with fail
    exact bodyPost_ret (v := .slice none 0 0) (by simp [*, results, Tryd.results42, go_sem]) rfl ⟨⟨none, 0, rfl, .inl rfl⟩, by (repeat (first | (with_reducible exact Below.refl _ _) | (with_reducible refine Ext.drewN ?_ _) | (with_reducible refine Below.drew ?_) | (with_reducible refine Ext.alloc ?_ _) | (with_reducible refine Ext.setCell ?_ (by simp; try omega) _) | (with_reducible refine Ext.trans ?_ (by assumption)) | (with_reducible assumption) | exact Below.refl _ _))⟩
  | true =>
    cases hb : rvB p q r s with
    | false =>
      have e0 : clL P Q R S n p q r s = [] := by unfold clL; rw [hok, hb]; rfl
      rw [e0]
      clear e0
      go_enter Tryd.func42, Tryd.ntmps42
      go_wp2_with fail
      go_call (isRegion_any m n cap P Q R S _ hn hcap (hD.ext (by (repeat (first | (with_reducible exact Below.refl _ _) | (with_reducible refine Ext.drewN ?_ _) | (with_reducible refine Below.drew ?_) | (with_reducible refine Ext.alloc ?_ _) | (with_reducible refine Ext.setCell ?_ (by simp; try omega) _) | (with_reducible refine Ext.trans ?_ (by assumption)) | (with_reducible assumption) | exact Below.refl _ _)))) (hR.ext (by (repeat (first | (with_reducible exact Below.refl _ _) | (with_reducible refine Ext.drewN ?_ _) | (with_reducible refine Below.drew ?_) | (with_reducible refine Ext.alloc ?_ _) | (with_reducible refine Ext.setCell ?_ (by simp; try omega) _) | (with_reducible refine Ext.trans ?_ (by assumption)) | (with_reducible assumption) | exact Below.refl _ _))))) as e w1 ⟨rfl, bw1⟩
      obtain ⟨sw1, zw1, cw1, fw1⟩ := bcell bw1
      try simp only [World.size_alloc, World.size_setCell, World.size_drew] at sw1
      try have lw1_w_0 : w.heap.size < w1.heap.size := by omega
      try have lw1_w_1 : w.heap.size + 1 < w1.heap.size := by omega
      try have lw1_w_2 : w.heap.size + 1 + 1 < w1.heap.size := by omega
      try have lw1_w_3 : w.heap.size + 1 + 1 + 1 < w1.heap.size := by omega
      try have lw1_w_4 : w.heap.size + 1 + 1 + 1 + 1 < w1.heap.size := by omega
      try have lw1_w_5 : w.heap.size + 1 + 1 + 1 + 1 + 1 < w1.heap.size := by omega
      try have lw1_w_6 : w.heap.size + 1 + 1 + 1 + 1 + 1 + 1 < w1.heap.size := by omega
      rw [hok]
      go_wp2_with fail
      go_call (implValidRect_any _ _ _ _ _ (hD.chip.ext (by (repeat (first | (with_reducible exact Below.refl _ _) | (with_reducible refine Ext.drewN ?_ _) | (with_reducible refine Below.drew ?_) | (with_reducible refine Ext.alloc ?_ _) | (with_reducible refine Ext.setCell ?_ (by simp; try omega) _) | (with_reducible refine Ext.trans ?_ (by assumption)) | (with_reducible assumption) | exact Below.refl _ _))))) as e w2 ⟨rfl, bw2⟩
      obtain ⟨sw2, zw2, cw2, fw2⟩ := bcell bw2
      try simp only [World.size_alloc, World.size_setCell, World.size_drew] at sw2
      try have lw2_w_0 : w.heap.size < w2.heap.size := by omega
      try have lw2_w_1 : w.heap.size + 1 < w2.heap.size := by omega
      try have lw2_w_2 : w.heap.size + 1 + 1 < w2.heap.size := by omega
      try have lw2_w_3 : w.heap.size + 1 + 1 + 1 < w2.heap.size := by omega
      try have lw2_w_4 : w.heap.size + 1 + 1 + 1 + 1 < w2.heap.size := by omega
      try have lw2_w_5 : w.heap.size + 1 + 1 + 1 + 1 + 1 < w2.heap.size := by omega
      try have lw2_w_6 : w.heap.size + 1 + 1 + 1 + 1 + 1 + 1 < w2.heap.size := by omega
      try have lw2_w1_0 : w1.heap.size < w2.heap.size := by omega
      try have lw2_w1_1 : w1.heap.size + 1 < w2.heap.size := by omega
      try have lw2_w1_2 : w1.heap.size + 1 + 1 < w2.heap.size := by omega
      try have lw2_w1_3 : w1.heap.size + 1 + 1 + 1 < w2.heap.size := by omega
      try have lw2_w1_4 : w1.heap.size + 1 + 1 + 1 + 1 < w2.heap.size := by omega
      try have lw2_w1_5 : w1.heap.size + 1 + 1 + 1 + 1 + 1 < w2.heap.size := by omega
      try have lw2_w1_6 : w1.heap.size + 1 + 1 + 1 + 1 + 1 + 1 < w2.heap.size := by omega
      rw [hb]
      go_wp2_with fail
      exact bodyPost_ret (v := .slice none 0 0) (by simp [*, results, Tryd.results42, go_sem]) rfl ⟨⟨none, 0, rfl, .inl rfl⟩, by (repeat (first | (with_reducible exact Below.refl _ _) | (with_reducible refine Ext.drewN ?_ _) | (with_reducible refine Below.drew ?_) | (with_reducible refine Ext.alloc ?_ _) | (with_reducible refine Ext.setCell ?_ (by simp; try omega) _) | (with_reducible refine Ext.trans ?_ (by assumption)) | (with_reducible assumption) | exact Below.refl _ _))⟩
    | true =>
      have hlen : n ≤ 3200 := by
        have h := canonL_len' (covF P Q R S n)
        rw [((okR_iff P Q R S n).1 hok).2, listR_len] at h
        exact h
      have HRO := Lib.hid (ixL_ro hok hb hlen)
      go_enter Tryd.func42, Tryd.ntmps42
      go_wp2_with fail
      go_call (isRegion_any m n cap P Q R S _ hn hcap (hD.ext (by (repeat (first | (with_reducible exact Below.refl _ _) | (with_reducible refine Ext.drewN ?_ _) | (with_reducible refine Below.drew ?_) | (with_reducible refine Ext.alloc ?_ _) | (with_reducible refine Ext.setCell ?_ (by simp; try omega) _) | (with_reducible refine Ext.trans ?_ (by assumption)) | (with_reducible assumption) | exact Below.refl _ _)))) (hR.ext (by (repeat (first | (with_reducible exact Below.refl _ _) | (with_reducible refine Ext.drewN ?_ _) | (with_reducible refine Below.drew ?_) | (with_reducible refine Ext.alloc ?_ _) | (with_reducible refine Ext.setCell ?_ (by simp; try omega) _) | (with_reducible refine Ext.trans ?_ (by assumption)) | (with_reducible assumption) | exact Below.refl _ _))))) as e w1 ⟨rfl, bw1⟩
      obtain ⟨sw1, zw1, cw1, fw1⟩ := bcell bw1
      try simp only [World.size_alloc, World.size_setCell, World.size_drew] at sw1
      try have lw1_w_0 : w.heap.size < w1.heap.size := by omega
      try have lw1_w_1 : w.heap.size + 1 < w1.heap.size := by omega
      try have lw1_w_2 : w.heap.size + 1 + 1 < w1.heap.size := by omega
      try have lw1_w_3 : w.heap.size + 1 + 1 + 1 < w1.heap.size := by omega
      try have lw1_w_4 : w.heap.size + 1 + 1 + 1 + 1 < w1.heap.size := by omega
      try have lw1_w_5 : w.heap.size + 1 + 1 + 1 + 1 + 1 < w1.heap.size := by omega
      try have lw1_w_6 : w.heap.size + 1 + 1 + 1 + 1 + 1 + 1 < w1.heap.size := by omega
      rw [hok]
      go_wp2_with fail
      go_call (implValidRect_any _ _ _ _ _ (hD.chip.ext (by (repeat (first | (with_reducible exact Below.refl _ _) | (with_reducible refine Ext.drewN ?_ _) | (with_reducible refine Below.drew ?_) | (with_reducible refine Ext.alloc ?_ _) | (with_reducible refine Ext.setCell ?_ (by simp; try omega) _) | (with_reducible refine Ext.trans ?_ (by assumption)) | (with_reducible assumption) | exact Below.refl _ _))))) as e w2 ⟨rfl, bw2⟩
      obtain ⟨sw2, zw2, cw2, fw2⟩ := bcell bw2
      try simp only [World.size_alloc, World.size_setCell, World.size_drew] at sw2
      try have lw2_w_0 : w.heap.size < w2.heap.size := by omega
      try have lw2_w_1 : w.heap.size + 1 < w2.heap.size := by omega
      try have lw2_w_2 : w.heap.size + 1 + 1 < w2.heap.size := by omega
      try have lw2_w_3 : w.heap.size + 1 + 1 + 1 < w2.heap.size := by omega
      try have lw2_w_4 : w.heap.size + 1 + 1 + 1 + 1 < w2.heap.size := by omega
      try have lw2_w_5 : w.heap.size + 1 + 1 + 1 + 1 + 1 < w2.heap.size := by omega
      try have lw2_w_6 : w.heap.size + 1 + 1 + 1 + 1 + 1 + 1 < w2.heap.size := by omega
      try have lw2_w1_0 : w1.heap.size < w2.heap.size := by omega
      try have lw2_w1_1 : w1.heap.size + 1 < w2.heap.size := by omega
      try have lw2_w1_2 : w1.heap.size + 1 + 1 < w2.heap.size := by omega
      try have lw2_w1_3 : w1.heap.size + 1 + 1 + 1 < w2.heap.size := by omega
      try have lw2_w1_4 : w1.heap.size + 1 + 1 + 1 + 1 < w2.heap.size := by omega
      try have lw2_w1_5 : w1.heap.size + 1 + 1 + 1 + 1 + 1 < w2.heap.size := by omega
      try have lw2_w1_6 : w1.heap.size + 1 + 1 + 1 + 1 + 1 + 1 < w2.heap.size := by omega
      rw [hb]
      go_wp2_with fail
      have BX0 : Hid (Box4 w2 w.heap.size p q r s) := Lib.hid ⟨keepC bw2 (keepC bw1 (by simp [go_sem])), keepC bw2 (keepC bw1 (by simp [go_sem])), keepC bw2 (keepC bw1 (by simp [go_sem])), keepC bw2 (keepC bw1 (by simp [go_sem]))⟩
      have B2 : Below w.heap.size w w2 := by (repeat (first | (with_reducible exact Below.refl _ _) | (with_reducible refine Ext.drewN ?_ _) | (with_reducible refine Below.drew ?_) | (with_reducible refine Ext.alloc ?_ _) | (with_reducible refine Ext.setCell ?_ (by simp; try omega) _) | (with_reducible refine Ext.trans ?_ (by assumption)) | (with_reducible assumption) | exact Below.refl _ _))
      have l2 : w.heap.size < w2.heap.size := by have h8 := bw1.size; have h9 := bw2.size; simp at h8; omega
      clear bw1 bw2 zw1 cw1 fw1 zw2 cw2 fw2
      go_loopw [5, 22] (fun v s9 wr => ∃ i : Nat, i ≤ n ∧ s9 = .int .i64 (i : Nat) ∧ Hid (wr.ownsRow (w.heap.size + 1) 36 4 v (ixL P Q R S p q r s i).length (recCells (ixL P Q R S p q r s i))) ∧ Below w.heap.size w wr ∧ w.heap.size < wr.heap.size ∧ Hid (Box4 wr w.heap.size p q r s)) (fun _ s9 _ => n - (intOf s9).toNat)
      case atStart => exact ⟨0, by omega, rfl, Lib.hid (World.ownsRow_nil _ _ _ _), B2, l2, BX0⟩
      case round =>
        obtain ⟨i, hil, rfl, HO, hW, hsz, HBX⟩ := hrel
        rename_i v5 _
        by_cases hlt : i < n
        · obtain ⟨b1, o1, rfl, hb1, c0, c1, c2, c3⟩ := hR.below hW i hlt
          have q1 : ((i : Nat) : Int) < (n : Int) := by omega
          have q0 : (0 : Int) ≤ ((i : Nat) : Int) := by omega
          obtain ⟨x0, x1, x2, x3⟩ := HBX.out
          have hll := ixL_len P Q R S p q r s i
          cases ho : ovB (P i) (Q i) (R i) (S i) p q r s with
          | false =>
            have HS := Lib.hid (show ixL P Q R S p q r s (i + 1) = ixL P Q R S p q r s i by rw [ixL, ho]; simp)
            go_wp2_with (first | (go_at_call 89; refine (implIntersectRects_any _ _ _ _ _ _ _ _ _ (hD.chip.ext (by (repeat (first | (with_reducible exact Below.refl _ _) | (with_reducible refine Ext.drewN ?_ _) | (with_reducible refine Below.drew ?_) | (with_reducible refine Ext.alloc ?_ _) | (with_reducible refine Ext.setCell ?_ (by simp; try omega) _) | (with_reducible refine Ext.trans ?_ (by assumption)) | (with_reducible assumption) | exact Below.refl _ _))))).mono ?_; rintro e v1 ⟨rfl, bv1⟩; rw [ixV_no ho]))
            have bq : Below wr.heap.size wr v1 := by (repeat (first | (with_reducible exact Below.refl _ _) | (with_reducible refine Ext.drewN ?_ _) | (with_reducible refine Below.drew ?_) | (with_reducible refine Ext.alloc ?_ _) | (with_reducible refine Ext.setCell ?_ (by simp; try omega) _) | (with_reducible refine Ext.trans ?_ (by assumption)) | (with_reducible assumption) | exact Below.refl _ _))
            have bq2 := bq.alloc bq.size (.cells #[.int .i64 0, .int .i64 0, .int .i64 0, .int .i64 0] 36)
            go_roundw
            case rel => exact ⟨i + 1, by omega, by go_num, Lib.hid (by rw [HS.out]; exact own_keep HO.out bq2), hW.trans (bq2.mono (by omega)), by have := bq2.size; omega, Lib.hid (HBX.out.keep bq2 hsz)⟩
            case measure => simp [intOf]; omega
          | true =>
            have HS := Lib.hid (show ixL P Q R S p q r s (i + 1) = ixL P Q R S p q r s i ++ [R4.mk (hi2 (P i) p) (hi2 (Q i) q) (lo2 (R i) r) (lo2 (S i) s)] by rw [ixL, if_pos ho])
            have HIX := Lib.hid (ixV_yes ho)
            revert HS HIX
            generalize hi2 (P i) p = v0
            generalize hi2 (Q i) q = v1
            generalize lo2 (R i) r = v2
            generalize lo2 (S i) s = v3
            intro HS HIX
            go_upto_region 9 with (first | (go_at_call 89; refine (implIntersectRects_any _ _ _ _ _ _ _ _ _ (hD.chip.ext (by (repeat (first | (with_reducible exact Below.refl _ _) | (with_reducible refine Ext.drewN ?_ _) | (with_reducible refine Below.drew ?_) | (with_reducible refine Ext.alloc ?_ _) | (with_reducible refine Ext.setCell ?_ (by simp; try omega) _) | (with_reducible refine Ext.trans ?_ (by assumption)) | (with_reducible assumption) | exact Below.refl _ _))))).mono ?_; rintro e u1 ⟨rfl, bu1⟩; rw [HIX.out]))
            have bq : Below wr.heap.size wr u1 := by (repeat (first | (with_reducible exact Below.refl _ _) | (with_reducible refine Ext.drewN ?_ _) | (with_reducible refine Below.drew ?_) | (with_reducible refine Ext.alloc ?_ _) | (with_reducible refine Ext.setCell ?_ (by simp; try omega) _) | (with_reducible refine Ext.trans ?_ (by assumption)) | (with_reducible assumption) | exact Below.refl _ _))
            obtain ⟨wz, hwz⟩ : ∃ wz, wz = u1.alloc (.cells #[.int .i64 v0, .int .i64 v1, .int .i64 v2, .int .i64 v3] 36) := ⟨_, rfl⟩
            have bz : Below wr.heap.size wr wz := by rw [hwz]; exact bq.alloc bq.size _
            have m0 : wz.cell? ⟨u1.heap.size, 0, none⟩ = some (.int .i64 v0) := by rw [hwz]; simp [go_sem]
            have m1 : wz.cell? ⟨u1.heap.size, 1, none⟩ = some (.int .i64 v1) := by rw [hwz]; simp [go_sem]
            have m2 : wz.cell? ⟨u1.heap.size, 2, none⟩ = some (.int .i64 v2) := by rw [hwz]; simp [go_sem]
            have m3 : wz.cell? ⟨u1.heap.size, 3, none⟩ = some (.int .i64 v3) := by rw [hwz]; simp [go_sem]
            have O2 := Lib.hid (own_keep HO.out bz)
            have X2 := Lib.hid (HBX.out.keep bz hsz)
            have sz := bz.size
            rw [← hwz]
            clear hwz bq bu1 HO HBX x0 x1 x2 x3 c0 c1 c2 c3
            go_wp2_with (at_builtin; refine wpList_append_own _ rfl _ _ 25 rfl (w.heap.size + 1) 36 i0 (.agg #[.int .i64 0, .int .i64 0, .int .i64 0, .int .i64 0]) 4 32 Tryd.underlying25 hi hz0 hz1 hz2 rfl (by decide) _ _ _ rfl (O2.out.alloc _) ⟨wz.heap.size, 0, none⟩ 1 1 [.int .i64 v0, .int .i64 v1, .int .i64 v2, .int .i64 v3] rfl rfl (World.news_of_block (cs := #[.int .i64 v0, .int .i64 v1, .int .i64 v2, .int .i64 v3]) (t := 36) (fr := (0, 0)) (heap_alloc_new wz _)) (by simp [Value.oneCell']) (by unfold maxLen; omega) (by omega) (by simp; omega) ?_; intro v' w4 hown4 hgrow hnil)
            have Bx : Below (w.heap.size + 1) wz w4 := ((Below.refl (w.heap.size + 1) wz).alloc (by omega) _).grown hgrow (by simp; omega) (fun k hk => (O2.out.lt k hk).1)
            have sx := Bx.size
            have O4 : Hid (w4.ownsRow (w.heap.size + 1) 36 4 v' (ixL P Q R S p q r s (i + 1)).length (recCells (ixL P Q R S p q r s (i + 1)))) := Lib.hid (by rw [HS.out, List.length_append, recCells_snoc]; exact hown4)
            clear hown4 hgrow hnil
            go_roundw
            case rel => exact ⟨i + 1, by omega, by go_num, O4, hW.trans ((bz.mono (by omega)).trans (Bx.mono (by omega))), by omega, Lib.hid (X2.out.keep Bx (by omega))⟩
            case measure => simp [intOf]; omega
        · have q1 : ¬ ((i : Nat) : Int) < (n : Int) := by omega
          obtain rfl : n = i := by omega
          have hll := ixL_len P Q R S p q r s n
          obtain ⟨a9, c9, rfl, h9⟩ := ownsL_own HO.out
          have R9 := Lib.hid h9.rects
          have hc9 : Hid ((ixL P Q R S p q r s n).length ≤ c9) := Lib.hid (own_cap HO.out)
          clear h9 HO
          go_wp2_with (first | (go_at_call 25; refine (regionOf_any a9 _ c9 _ _ _ _ _ (by omega) hc9.out (hD.ext hW) R9.out).mono ?_; rintro e w5 ⟨⟨a5, c5, rfl, h5⟩, bw5⟩; rw [HRO.out] at h5 ⊢; have H5 := Lib.hid h5; clear h5))
          exact bodyPost_ret (v := .slice a5 (clL P Q R S n p q r s).length c5) (by simp [results, Tryd.results42, go_sem]) rfl ⟨⟨a5, c5, rfl, H5.out.mono hW.size⟩, Ext.trans hW bw5⟩
end Go.Proofs.YtpbijohdnocleaaDoor
