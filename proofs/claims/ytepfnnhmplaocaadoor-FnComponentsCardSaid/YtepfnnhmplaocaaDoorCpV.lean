/- The program's slices.Concat over lists of rectangles. Conditions: the lists are in memory of their own. -/
import Derived.Test.YtepfnnhmplaocaaDoorCpT
import Derived.Test.YtepfnnhmplaocaaDoorCpP
import Derived.Test.YtepfnnhmplaocaaDoorCpJ
import Derived.Test.YtepfnnhmplaocaaDoorQT
namespace Go.Proofs.YtepfnnhmplaocaaDoor
open Go.RowKit
set_option linter.unusedVariables false
set_option linter.unusedSimpArgs false
attribute [local go_sem ↓] Go.wp_at_zero Go.wp_at_succ

theorem covL_t {l : List R4} {k : Nat} : covL l k = true ↔ ∃ r, r ∈ l ∧ (r.a ≤ ((k % 80 : Nat) : Int) - 40 ∧ ((k % 80 : Nat) : Int) - 40 < r.c ∧ r.b ≤ ((k / 80 : Nat) : Int) - 40 ∧ ((k / 80 : Nat) : Int) - 40 < r.d) := by
  unfold covL covF
  have key : ∀ n, covB (pA l) (pB l) (pC l) (pD l) ((k % 80 : Nat) - 40) ((k / 80 : Nat) - 40) n = true ↔ ∃ i, i < n ∧ (pA l i ≤ ((k % 80 : Nat) : Int) - 40 ∧ ((k % 80 : Nat) : Int) - 40 < pC l i ∧ pB l i ≤ ((k / 80 : Nat) : Int) - 40 ∧ ((k / 80 : Nat) : Int) - 40 < pD l i) := by
    intro n
    induction n with
    | zero => simp [covB]
    | succ n ih =>
      rw [covB]
      simp only [Bool.or_eq_true, Bool.and_eq_true, decide_eq_true_eq]
      rw [ih]
      constructor
      · rintro (⟨i, h1, h2⟩ | h)
        · exact ⟨i, by omega, h2⟩
        · exact ⟨n, by omega, by omega⟩
      · rintro ⟨i, h1, h2⟩
        by_cases e : i = n
        · subst e; exact .inr (by omega)
        · exact .inl ⟨i, by omega, h2⟩
  rw [key]
  constructor
  · rintro ⟨i, h1, h2⟩
    exact ⟨l.getD i default, List.mem_of_getElem? (getD_get h1), h2⟩
  · rintro ⟨r, hr, h⟩
    obtain ⟨i, hi⟩ := List.getElem?_of_mem hr
    have e : l.getD i default = r := by rw [List.getD, hi]; rfl
    refine ⟨i, (List.getElem?_eq_some_iff.1 hi).1, ?_⟩
    unfold pA pB pC pD
    rw [e]; exact h
theorem covL_flat (LL : List (List R4)) (k : Nat) : covL LL.flatten k = anyF LL k := by
  rw [Bool.eq_iff_iff, covL_t]
  unfold anyF
  rw [List.any_eq_true]
  constructor
  · rintro ⟨r, hr, h⟩
    obtain ⟨l, hl, hrl⟩ := List.mem_flatten.1 hr
    exact ⟨l, hl, covL_t.2 ⟨r, hrl, h⟩⟩
  · rintro ⟨l, hl, h⟩
    obtain ⟨r, hr, h⟩ := covL_t.1 h
    exact ⟨r, List.mem_flatten.2 ⟨l, hl, hr⟩, h⟩
theorem flat_okV {LL : List (List R4)} (hc : allCan LL) (ht : (LL.map List.length).sum ≤ 3200) : okV (pA LL.flatten) (pB LL.flatten) (pC LL.flatten) (pD LL.flatten) LL.flatten.length = true := by
  unfold okV allV
  rw [Bool.and_eq_true, decide_eq_true_eq, List.length_flatten]
  refine ⟨ht, ?_⟩
  rw [List.all_eq_true]
  intro i hi
  rw [List.mem_range, ← List.length_flatten] at hi
  have hm := List.mem_of_getElem? (getD_get hi)
  obtain ⟨l, hl, hrl⟩ := List.mem_flatten.1 hm
  obtain ⟨g, rfl⟩ := hc l hl
  exact canonL_valid g _ hrl
/-- What joining lists of rectangles gives. -/
theorem flat_roL {LL : List (List R4)} (hc : allCan LL) (ht : (LL.map List.length).sum ≤ 3200) : roL (pA LL.flatten) (pB LL.flatten) (pC LL.flatten) (pD LL.flatten) LL.flatten.length = canonL (anyF LL) := by
  unfold roL
  rw [if_pos (flat_okV hc ht)]
  congr 1
  funext k
  exact covL_flat LL k
theorem recC_app (l l' : List R4) : recCells (l ++ l') = recCells l ++ recCells l' := by unfold recCells; rw [List.flatMap_append]
theorem recC_one (l : List R4) : ∀ u ∈ recCells l, u.oneCell' = true := fun u hu => by
  unfold recCells at hu
  obtain ⟨r, _, hr⟩ := List.mem_flatMap.1 hu
  unfold r4cells at hr
  simp only [List.mem_cons, List.not_mem_nil, or_false] at hr
  rcases hr with rfl | rfl | rfl | rfl <;> rfl
theorem RowR.news {w : World} {g : Nat} {l : List R4} (h : RowR w g l.length (pA l) (pB l) (pC l) (pD l)) : ∀ j u, (recCells l)[j]? = some u → w.cell? ((⟨g, 0, none⟩ : Addr).add j) = some u := fun j u hj => by
  rw [addG]
  have hjl := (List.getElem?_eq_some_iff.1 hj).1
  rw [recCells_len] at hjl
  have hk : j / 4 < l.length := by omega
  obtain ⟨⟨c0, c1, c2, c3⟩, _⟩ := h (j / 4) hk
  obtain ⟨r0, r1, r2, r3⟩ := recCells_at l (j / 4) _ (getD_get hk)
  have ej : j = j / 4 * 4 + j % 4 := by omega
  have e4 : j % 4 = 0 ∨ j % 4 = 1 ∨ j % 4 = 2 ∨ j % 4 = 3 := by omega
  rcases e4 with e4 | e4 | e4 | e4 <;> rw [e4] at ej <;> rw [ej] at hj ⊢
  · rw [Nat.add_zero] at hj ⊢
    rw [r0] at hj; rw [← hj]; exact c0
  · rw [r1] at hj; rw [← hj]; exact c1
  · rw [r2] at hj; rw [← hj]; exact c2
  · rw [r3] at hj; rw [← hj]; exact c3
theorem own_zero {w : World} {B E sz n : Nat} {v : Value} {xs : List Value} (h : w.ownsRow B E sz v n xs) : ∃ a c, v = .slice a n c ∧ w.ownsRow B E sz (.slice a 0 c) 0 [] := by
  rcases h.2 with ⟨rfl, rfl⟩ | ⟨g, cap, cur, rfl, h1, h2, h3, h4, h5, _⟩
  · exact ⟨none, 0, rfl, by simp, .inl ⟨rfl, rfl⟩⟩
  · exact ⟨_, cap, rfl, by simp, .inr ⟨g, cap, cur, rfl, h1, h2, by omega, h4, h5, by simp⟩⟩
set_option maxHeartbeats 4000000 in
set_option maxRecDepth 100000 in
theorem grow_any (n : Nat) (w : World) (hn : n ≤ 3280) :
    Calls Tryd.prog 137 #[.slice none 0 0, .int .i64 (n : Int)] w fun e w' => (∃ a c, e = .returned (.slice a 0 c) ∧ w'.ownsRow w.heap.size 39 4 (.slice a 0 c) 0 []) ∧ Below w.heap.size w w' := by
  obtain ⟨i1, hj, hy0, hy1, hy2⟩ := info_parts infoRc
  have q1 : ¬ (n : Int) < 0 := by omega
  by_cases h0 : n = 0
  · subst h0
    go_enter Tryd.func137, Tryd.ntmps137
    go_wp2_with fail
    go_ret
    exact ⟨⟨none, 0, rfl, by simp, .inl ⟨rfl, rfl⟩⟩, Below.refl _ _⟩
  have q2 : (n : Int) > 0 := by omega
  have q3 : 0 < (n : Int) := by omega
  have e32 : Tryd.t39.bytes = 32 := rfl
  have k1 : ¬ 281474976710656 < (n : Int) * (Tryd.t39.bytes : Int) := by rw [e32]; omega
  have k2 : ¬ 281474976710656 < Builtin.nextslicecap n 0 * Tryd.t39.bytes := by rw [nextslicecap_zero (by omega), e32]; omega
  have K1 := Lib.hid k1
  have K2 := Lib.hid k2
  clear k1 k2 e32
  go_enter Tryd.func137, Tryd.ntmps137
  go_wp2_with fail
  have hge := grownCap_ge w n 0 39
  have hle := grownCap_le_maxLen w n 0 39 (by unfold maxLen; omega)
  unfold grownCap at hge hle
  go_ret
  refine ⟨⟨_, _, rfl, by simp, .inr ⟨w.heap.size, _, _, rfl, Nat.le_refl _, heap_alloc_new w _, by omega, hle, ?_, by simp⟩⟩, by (repeat (first | (with_reducible exact Below.refl _ _) | (with_reducible refine Ext.drewN ?_ _) | (with_reducible refine Below.drew ?_) | (with_reducible refine Ext.alloc ?_ _) | (with_reducible refine Ext.setCell ?_ (by simp; try omega) _) | (with_reducible refine Ext.trans ?_ (by assumption)) | (with_reducible assumption) | exact Below.refl _ _))⟩
  rw [Array.size_append, size_zeroCells, size_zeroCells]
  show n * 4 + (_ - n) * 4 = _
  omega
/-- A call that hands back a list of rectangles of its own, its room known. -/
def LOwnR (B : Nat) (l : List R4) (e : Ending) (w : World) : Prop := ∃ a c, e = .returned (.slice a l.length c) ∧ l.length ≤ c ∧ OwnsL B w a l
set_option maxHeartbeats 8000000 in
set_option maxRecDepth 100000 in
theorem concat_any (B : Nat) (a : Option Addr) (LL : List (List R4)) (c : Nat) (V : List Value) (g : Nat → Nat) (w : World) (hB : B ≤ w.heap.size) (hl : LL.length ≤ 6400) (ht : (LL.map List.length).sum ≤ 3280) (hL : LsOwn B w (.slice a LL.length c) LL V g) :
    Calls Tryd.prog 120 #[.slice a LL.length c] w fun e w' => LOwnR w.heap.size LL.flatten e w' ∧ Below w.heap.size w w' := by
  obtain ⟨i1, hj, hy0, hy1, hy2⟩ := info_parts infoRc
  have HL := Lib.hid hL
  have hflat : LL.flatten.length = (LL.map List.length).sum := List.length_flatten
  have hsum : ∀ i, ((LL.take i).map List.length).sum ≤ (LL.map List.length).sum := fun i => by
    have e : LL.map List.length = (LL.take i).map List.length ++ (LL.drop i).map List.length := by rw [← List.map_append, List.take_append_drop]
    rw [e, List.sum_append]; omega
  have hstep : ∀ i l, LL[i]? = some l → ((LL.take (i + 1)).map List.length).sum = ((LL.take i).map List.length).sum + l.length := fun i l h => by
    rw [List.take_add_one, h, Option.toList_some, List.map_append, List.sum_append]; simp
  have HT := Lib.hid ht
  have HF := Lib.hid hflat
  have HSU := Lib.hid hsum
  have HSP := Lib.hid hstep
  clear hL ht hflat hsum hstep
  go_enter Tryd.func120, Tryd.ntmps120
  go_wp2_with fail
  go_loopw [3, 11] (fun s3 s11 wr => ∃ (i q : Nat), i ≤ LL.length ∧ q ≤ 3280 ∧ s3 = .int .i64 (q : Nat) ∧ s11 = .int .i64 (i : Nat) ∧ Hid (wr = w) ∧ Hid (q = ((LL.take i).map List.length).sum)) (fun _ s11 _ => LL.length - (intOf s11).toNat)
  case atStart => exact ⟨0, 0, by omega, by omega, rfl, rfl, Lib.hid rfl, Lib.hid rfl⟩
  case round =>
    obtain ⟨i, q, hil, hq3, rfl, rfl, HWR, HQ⟩ := hrel
    have hwr := HWR.out.symm
    subst hwr
    clear HWR
    by_cases hlt : i < LL.length
    case neg =>
      obtain rfl : i = LL.length := by omega
      have q1 : ¬ ((LL.length : Nat) : Int) < (LL.length : Int) := by omega
      go_wp2_with (go_at_call 137; refine (grow_any q _ hq3).mono ?_; rintro e w2 ⟨⟨a2, c2, rfl, o2⟩, bw2⟩; have O2 := Lib.hid o2; clear o2)
      have O3 : Hid (w2.ownsRow w.heap.size 39 4 (.slice a2 0 c2) 0 (recCells (LL.take 0).flatten)) := O2
      have hs2 := bw2.size
      have HB2 := Lib.hid bw2
      clear bw2 O2 HQ
      go_loopw [6, 27] (fun s6 s27 wr => ∃ (i q : Nat) (a8 : Option Addr) (c8 : Nat), i ≤ LL.length ∧ q ≤ 3280 ∧ s6 = .slice a8 q c8 ∧ s27 = .int .i64 (i : Nat) ∧ Hid (Below w.heap.size w wr) ∧ Hid (q = (LL.take i).flatten.length) ∧ Hid (wr.ownsRow w.heap.size 39 4 (.slice a8 q c8) q (recCells (LL.take i).flatten))) (fun _ s27 _ => LL.length - (intOf s27).toNat)
      case atStart => exact ⟨0, 0, a2, c2, by omega, by omega, rfl, rfl, HB2, Lib.hid rfl, O3⟩
      case round =>
        clear HB2 O3 hs2
        obtain ⟨i, q, a8, c8, hil, hq3, rfl, rfl, HB, HQ, HO⟩ := hrel
        by_cases hlt : i < LL.length
        case neg =>
          obtain rfl : i = LL.length := by omega
          have q1 : ¬ ((LL.length : Nat) : Int) < (LL.length : Int) := by omega
          have ho := HO.out
          have hq := HQ.out
          rw [List.take_of_length_le (Nat.le_refl _)] at ho hq
          have hfin : LOwnR w.heap.size LL.flatten (.returned (.slice a8 q c8)) wr := by
            rw [hq] at ho ⊢
            obtain ⟨a9, c9, e9, k9, o9⟩ := ownsL_ownC ho
            cases e9
            exact ⟨_, _, rfl, k9, o9⟩
          have HFIN := Lib.hid hfin
          clear hfin ho hq
          go_wp2_with fail
          go_ret
          exact ⟨HFIN.out, HB.out⟩
        have q1 : ((i : Nat) : Int) < (LL.length : Int) := by omega
        have q0 : (0 : Int) ≤ ((i : Nat) : Int) := by omega
        obtain ⟨l, hl⟩ : ∃ l, LL[i]? = some l := ⟨_, List.getElem?_eq_getElem hlt⟩
        obtain ⟨c', e1, e2, e3, e4, e5⟩ := (HL.out.below HB.out).each i l hl
        obtain ⟨g0, cap0, hg0⟩ : ∃ g0 cap0, Value.slice a LL.length c = .slice (some ⟨g0, 0, none⟩) LL.length cap0 := by
          rcases HL.out.row.2 with ⟨_, h0⟩ | ⟨g0, cap0, _, h1, _⟩
          · omega
          · exact ⟨g0, cap0, h1⟩
        cases hg0
        have r1 := row_cells (HL.out.below HB.out).row i _ e1
        have hfs : (LL.take (i + 1)).flatten = (LL.take i).flatten ++ l := by
          rw [List.take_add_one, hl, Option.toList_some, List.flatten_append]; simp
        have hfl : (LL.take (i + 1)).flatten.length ≤ 3280 := by
          rw [List.length_flatten]; exact Nat.le_trans (HSU.out _) HT.out
        rw [hfs, List.length_append, ← HQ.out] at hfl
        have HFS := Lib.hid hfs
        have HNW := Lib.hid e4
        have hws := HB.out.size
        clear hfs e1 e3 e4 e5
        go_wp2_with (at_builtin; go_loud (refine wpList_append_own_at _ rfl _ _ 26 rfl w.heap.size 39 i1 _ 4 32 Tryd.underlying26 hj hy0 hy1 hy2 rfl (by decide) _ _ _ rfl HO.out ⟨g i, 0, none⟩ l.length c' (recCells l) rfl (recCells_len l) HNW.out.news (recC_one l) ?c3 ?c4 hws ?_))
        case c3 => unfold maxLen; omega
        case c4 => omega
        intro v' wn hown' hgrow _ hat
        rw [← recC_app, ← HFS.out] at hown'
        obtain ⟨a9, c9, rfl, hk9⟩ := own_sl hown'
        have HO6 := Lib.hid hown'
        have HB6 := Lib.hid (show Below w.heap.size w wn from Below.grown HB.out hgrow hws (fun t ht => (HO.out.lt t ht).1))
        have HQ6 : Hid (q + l.length = (LL.take (i + 1)).flatten.length) := Lib.hid (by rw [HFS.out, List.length_append, HQ.out])
        clear hown' hgrow hat
        go_wp2_with fail
        go_roundw
        case rel => exact ⟨i + 1, q + l.length, a9, c9, by omega, hfl, rfl, by go_num, HB6, HQ6, HO6⟩
        case measure => simp [intOf]; omega
    have q1 : ((i : Nat) : Int) < (LL.length : Int) := by omega
    have q0 : (0 : Int) ≤ ((i : Nat) : Int) := by omega
    obtain ⟨l, hl⟩ : ∃ l, LL[i]? = some l := ⟨_, List.getElem?_eq_getElem hlt⟩
    obtain ⟨c', e1, e2, e3, e4, e5⟩ := HL.out.each i l hl
    obtain ⟨g0, cap0, hg0⟩ : ∃ g0 cap0, Value.slice a LL.length c = .slice (some ⟨g0, 0, none⟩) LL.length cap0 := by
      rcases HL.out.row.2 with ⟨_, h0⟩ | ⟨g0, cap0, _, h1, _⟩
      · omega
      · exact ⟨g0, cap0, h1⟩
    cases hg0
    have r1 := row_cells HL.out.row i _ e1
    have hs := HSP.out i l hl
    rw [← HQ.out] at hs
    have hs2 := HSU.out (i + 1)
    rw [hs] at hs2
    have hs3 := HT.out
    have hq4 : q + l.length ≤ 3280 := by omega
    have HS := Lib.hid hs
    clear hs hs2 hs3 e1 e3 e4 e5
    have hw1 : IntKind.i64.wrap ((q : Int) + (l.length : Int)) = (q : Int) + (l.length : Int) := by rw [IntKind.wrap_i64]; omega
    have hn1 : ¬ ((q : Int) + (l.length : Int)) < 0 := by omega
    go_wp2_with fail
    go_roundw
    case rel => exact ⟨i + 1, q + l.length, by omega, hq4, by go_num, by go_num, by first | exact Lib.hid rfl | exact Lib.hid trivial, Lib.hid HS.out.symm⟩
    case measure => simp [intOf]; omega
set_option maxHeartbeats 4000000 in
theorem joinParts_any (B : Nat) (a : Option Addr) (LL : List (List R4)) (c : Nat) (V : List Value) (g : Nat → Nat) (w : World) (hB : B ≤ w.heap.size) (hl : LL.length ≤ 6400) (hc : allCan LL) (ht : (LL.map List.length).sum ≤ 3200) (hD : EnvW w) (hL : LsOwn B w (.slice a LL.length c) LL V g) :
    Calls Tryd.prog 82 #[.slice a LL.length c] w fun e w' => LOwnR w.heap.size (canonL (anyF LL)) e w' ∧ Below w.heap.size w w' := by
  have hcc := concat_any B a LL c V g w hB hl (by omega) hL
  have HD := Lib.hid hD
  have hro := flat_roL hc ht
  have hfl : LL.flatten.length ≤ 1048576 := by rw [List.length_flatten]; omega
  obtain ⟨l, hll⟩ : ∃ l, LL.flatten = l := ⟨_, rfl⟩
  rw [hll] at hcc hro hfl
  have hrg := fun m cap w' hcap hD' hR' => regionOfC_any m l.length cap (pA l) (pB l) (pC l) (pD l) w' hfl hcap hD' hR'
  rw [hro] at hrg
  obtain ⟨res, hres⟩ : ∃ res, canonL (anyF LL) = res := ⟨_, rfl⟩
  rw [hres] at hrg ⊢
  obtain ⟨b, hb⟩ : ∃ b, okV (pA l) (pB l) (pC l) (pD l) l.length = b := ⟨_, rfl⟩
  rw [hb] at hrg
  clear hres hll hro hD hL hb
  go_enter Tryd.func82, Tryd.ntmps82
  go_wp2_with (first | (go_at_call 120; refine hcc.mono ?_; rintro e w2 ⟨⟨a2, c2, rfl, k2, o2⟩, bw2⟩; have O2 := Lib.hid o2; clear o2) | (go_at_call 115; refine (hrg _ _ _ k2 (HD.out.ext bw2) O2.out.rects).mono ?_; rintro e w3 ⟨⟨a3, c3, rfl, k3, o3⟩, bw3⟩; have O3 := Lib.hid o3; clear o3))
  go_ret
  exact ⟨⟨a3, c3, rfl, k3, O3.out.mono bw2.size⟩, Ext.trans bw2 bw3⟩
end Go.Proofs.YtepfnnhmplaocaaDoor
