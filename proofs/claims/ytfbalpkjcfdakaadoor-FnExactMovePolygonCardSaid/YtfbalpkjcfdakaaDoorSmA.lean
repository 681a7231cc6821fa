/- The program's slices.Concat of a list of points with itself. Condition: the points' cells are in memory. -/
import Derived.Test.YtfbalpkjcfdakaaDoorPgD
import Derived.Laws.AppendOwn
import Derived.OwnWalk
import Derived.Deep.AppendLies
import Derived.Laws.Rows
import Derived.Laws.OwnMore
namespace Go.Proofs.YtfbalpkjcfdakaaDoor
open Go.RowKit
set_option linter.unusedVariables false
set_option linter.unusedSimpArgs false
attribute [local go_sem ↓] Go.wp_at_zero Go.wp_at_succ

/-- The cells of points. -/
def ptC (X Y : Nat → Int) (n : Nat) : List Value := (List.range n).flatMap fun i => [.int .i64 (X i), .int .i64 (Y i)]
theorem ptC_succ (X Y : Nat → Int) (n : Nat) : ptC X Y (n + 1) = ptC X Y n ++ [.int .i64 (X n), .int .i64 (Y n)] := by simp [ptC, List.range_succ]
theorem ptC_len (X Y : Nat → Int) : ∀ n, (ptC X Y n).length = n * 2
  | 0 => rfl
  | n + 1 => by rw [ptC_succ, List.length_append, ptC_len X Y n]; simp; omega
theorem ptC_at (X Y : Nat → Int) : ∀ (n i : Nat), i < n → (ptC X Y n)[i * 2]? = some (.int .i64 (X i)) ∧ (ptC X Y n)[i * 2 + 1]? = some (.int .i64 (Y i))
  | 0, i, h => absurd h (by omega)
  | n + 1, i, h => by
    rw [ptC_succ]
    by_cases e : i = n
    · subst e
      rw [List.getElem?_append_right (by rw [ptC_len]; omega), List.getElem?_append_right (by rw [ptC_len]; omega), ptC_len, Nat.sub_self, show i * 2 + 1 - i * 2 = 1 by omega]
      exact ⟨rfl, rfl⟩
    · rw [List.getElem?_append_left (by rw [ptC_len]; omega), List.getElem?_append_left (by rw [ptC_len]; omega)]
      exact ptC_at X Y n i (by omega)
theorem ptC_one (X Y : Nat → Int) (n : Nat) : ∀ u ∈ ptC X Y n, u.oneCell' = true := fun u hu => by
  unfold ptC at hu
  obtain ⟨i, _, hr⟩ := List.mem_flatMap.1 hu
  simp only [List.mem_cons, List.not_mem_nil, or_false] at hr
  rcases hr with rfl | rfl <;> rfl
theorem addQ (b o j : Nat) : (⟨b, o, none⟩ : Addr).add j = ⟨b, o + j, none⟩ := by
  unfold Addr.add
  split
  · rename_i h; subst h; rfl
  · rfl
theorem ptC_news {B : Nat} {w : World} {b off n : Nat} {X Y : Nat → Int} (h : PtsIs B w (some ⟨b, off, none⟩) n X Y) : ∀ j u, (ptC X Y n)[j]? = some u → w.cell? ((⟨b, off, none⟩ : Addr).add j) = some u := fun j u hj => by
  rw [addQ]
  have hjl := (List.getElem?_eq_some_iff.1 hj).1
  rw [ptC_len] at hjl
  obtain ⟨_, c0, c1⟩ := h.at rfl (show j / 2 < n by omega)
  obtain ⟨r0, r1⟩ := ptC_at X Y n (j / 2) (by omega)
  have ej : j = j / 2 * 2 ∨ j = j / 2 * 2 + 1 := by omega
  rcases ej with ej | ej <;> rw [ej] at hj ⊢
  · rw [r0] at hj; rw [← hj]; exact c0
  · rw [r1] at hj; rw [← hj, ← Nat.add_assoc]; exact c1
/-- The list k times. -/
theorem ptC_twice (X Y : Nat → Int) (n : Nat) (hn : 0 < n) : ptC X Y n ++ ptC X Y n = ptC (fun i => X (i % n)) (fun i => Y (i % n)) (n + n) := by
  have h1 : ∀ m, m ≤ n → ptC (fun i => X (i % n)) (fun i => Y (i % n)) m = ptC X Y m := by
    intro m
    induction m with
    | zero => intro _; rfl
    | succ m ih => intro hm; rw [ptC_succ, ptC_succ, ih (by omega), Nat.mod_eq_of_lt (show m < n by omega)]
  have h2 : ∀ m, m ≤ n → ptC X Y n ++ ptC X Y m = ptC (fun i => X (i % n)) (fun i => Y (i % n)) (n + m) := by
    intro m
    induction m with
    | zero => intro _; rw [Nat.add_zero, h1 n (Nat.le_refl _)]; simp [ptC]
    | succ m ih => intro hm; rw [ptC_succ, ← List.append_assoc, ih (by omega), show n + (m + 1) = (n + m) + 1 by omega, ptC_succ, Nat.add_mod_left, Nat.mod_eq_of_lt (show m < n by omega)]
  exact h2 n (Nat.le_refl _)
theorem own_pts {w : World} {B g n cap : Nat} {X Y : Nat → Int} (h : w.ownsRow B 66 2 (.slice (some ⟨g, 0, none⟩) n cap) n (ptC X Y n)) : PtsIs w.heap.size w (some ⟨g, 0, none⟩) n X Y := fun i hi => by
  have hl := h.lt g rfl
  obtain ⟨h0, h1⟩ := ptC_at X Y n i hi
  have c0 := h.cells (g := g) rfl _ _ h0
  have c1 := h.cells (g := g) rfl _ _ h1
  rw [addQ] at c0 c1
  exact ⟨g, 0, rfl, hl.2, c0, c1⟩
theorem own_slP {w : World} {B E sz n : Nat} {v : Value} {xs : List Value} (h : w.ownsRow B E sz v n xs) : ∃ a c, v = .slice a n c := by
  rcases h.2 with ⟨rfl, rfl⟩ | ⟨g, cap, cur, rfl, h1, h2, h3, h4, h5, _⟩
  · exact ⟨none, 0, rfl⟩
  · exact ⟨_, cap, rfl⟩

set_option maxHeartbeats 4000000 in
set_option maxRecDepth 100000 in
theorem growP_any (n : Nat) (w : World) (hn : n ≤ 25600) (h0 : 0 < n) :
    Calls Tryd.prog 129 #[.slice none 0 0, .int .i64 (n : Int)] w fun e w' => (∃ a c, e = .returned (.slice a 0 c) ∧ w'.ownsRow w.heap.size 66 2 (.slice a 0 c) 0 []) ∧ Below w.heap.size w w' := by
  obtain ⟨i1, hj, hy0, hy1, hy2⟩ := info_parts A.infoP
  have q1 : ¬ (n : Int) < 0 := by omega
  have q2 : (n : Int) > 0 := by omega
  have q3 : 0 < (n : Int) := by omega
  have e32 : Tryd.t66.bytes = 16 := rfl
  have k1 : ¬ 281474976710656 < (n : Int) * (Tryd.t66.bytes : Int) := by rw [e32]; omega
  have k2 : ¬ 281474976710656 < Builtin.nextslicecap n 0 * Tryd.t66.bytes := by rw [nextslicecap_zero (by omega), e32]; omega
  have K1 := Lib.hid k1
  have K2 := Lib.hid k2
  clear k1 k2 e32
  go_enter Tryd.func129, Tryd.ntmps129
  go_wp2_with fail
  have hge := grownCap_ge w n 0 66
  have hle := grownCap_le_maxLen w n 0 66 (by unfold maxLen; omega)
  unfold grownCap at hge hle
  go_ret
  refine ⟨⟨_, _, rfl, by simp, .inr ⟨w.heap.size, _, _, rfl, Nat.le_refl _, heap_alloc_new w _, by omega, hle, ?_, by simp⟩⟩, by (repeat (first | (with_reducible exact Below.refl _ _) | (with_reducible refine Ext.drewN ?_ _) | (with_reducible refine Below.drew ?_) | (with_reducible refine Ext.alloc ?_ _) | (with_reducible refine Ext.setCell ?_ (by simp; try omega) _) | (with_reducible refine Ext.trans ?_ (by assumption)) | (with_reducible assumption) | exact Below.refl _ _))⟩
  rw [Array.size_append, size_zeroCells, size_zeroCells]
  show n * 2 + (_ - n) * 2 = _
  omega

/-- The list q times over, q = 0, 1, 2. -/
def ptQ (X Y : Nat → Int) (n q : Nat) : List Value := ptC (fun i => X (i % n)) (fun i => Y (i % n)) (q * n)
theorem ptQ_step (X Y : Nat → Int) (n q : Nat) (hn : 0 < n) (hq : q < 2) : ptQ X Y n q ++ ptC X Y n = ptQ X Y n (q + 1) := by
  unfold ptQ
  rcases (show q = 0 ∨ q = 1 by omega) with rfl | rfl
  · have h1 : ∀ m, m ≤ n → ptC (fun i => X (i % n)) (fun i => Y (i % n)) m = ptC X Y m := by
      intro m
      induction m with
      | zero => intro _; rfl
      | succ m ih => intro hm; rw [ptC_succ, ptC_succ, ih (by omega), Nat.mod_eq_of_lt (show m < n by omega)]
    rw [show (0 + 1) * n = n by omega, h1 n (Nat.le_refl _), Nat.zero_mul]
    simp [ptC]
  · have h1 : ∀ m, m ≤ n → ptC (fun i => X (i % n)) (fun i => Y (i % n)) m = ptC X Y m := by
      intro m
      induction m with
      | zero => intro _; rfl
      | succ m ih => intro hm; rw [ptC_succ, ptC_succ, ih (by omega), Nat.mod_eq_of_lt (show m < n by omega)]
    rw [show (1 + 1) * n = n + n by omega, ← ptC_twice X Y n hn, Nat.one_mul, h1 n (Nat.le_refl _)]
/-- What joining gives: the points twice. -/
def TwiceRes (B n : Nat) (X Y : Nat → Int) (e : Ending) (w : World) : Prop := ∃ g c, e = .returned (.slice (some ⟨g, 0, none⟩) (2 * n) c) ∧ 2 * n ≤ c ∧ PtsIs w.heap.size w (some ⟨g, 0, none⟩) (2 * n) (fun i => X (i % n)) (fun i => Y (i % n))
set_option maxHeartbeats 8000000 in
set_option maxRecDepth 100000 in
theorem twice_any (g b off n c : Nat) (X Y : Nat → Int) (w : World) (h0 : 0 < n) (hn : n ≤ 12800) (hP : PtsIs w.heap.size w (some ⟨b, off, none⟩) n X Y) (x0 : w.cell? ⟨g, 0, none⟩ = some (.slice (some ⟨b, off, none⟩) n c)) (x1 : w.cell? ⟨g, 1, none⟩ = some (.slice (some ⟨b, off, none⟩) n c)) :
    Calls Tryd.prog 77 #[.slice (some ⟨g, 0, none⟩) 2 2] w fun e w' => TwiceRes w.heap.size n X Y e w' ∧ Below w.heap.size w w' := by
  obtain ⟨i1, hj, hy0, hy1, hy2⟩ := info_parts A.infoP
  have HP := Lib.hid hP
  have xi : ∀ i : Nat, i < 2 → w.cell? ⟨g, i, none⟩ = some (.slice (some ⟨b, off, none⟩) n c) := fun i hi => by
    rcases (show i = 0 ∨ i = 1 by omega) with rfl | rfl
    · exact x0
    · exact x1
  have hg := World.block_lt_of_cell? w ⟨g, 0, none⟩ x0
  have XI := Lib.hid xi
  clear hP x0 x1 xi
  go_enter Tryd.func77, Tryd.ntmps77
  go_wp2_with fail
  go_loopw [3, 11] (fun s3 s11 wr => ∃ i : Nat, i ≤ 2 ∧ s3 = .int .i64 ((i * n : Nat) : Int) ∧ s11 = .int .i64 (i : Nat) ∧ Hid (wr = w)) (fun _ s11 _ => 2 - (intOf s11).toNat)
  case atStart => exact ⟨0, by omega, by simp, rfl, Lib.hid rfl⟩
  case round =>
    obtain ⟨i, hil, rfl, rfl, HWR⟩ := hrel
    have hwr := HWR.out.symm
    subst hwr
    clear HWR
    by_cases hlt : i < 2
    case pos =>
      have q1 : (i : Int) < 2 := by omega
      have q0 : (0 : Int) ≤ (i : Int) := by omega
      have xi := XI.out i hlt
      obtain ⟨z, hz⟩ : ∃ z, z = i * n := ⟨_, rfl⟩
      have hzn : z ≤ 25600 := by rw [hz]; rcases (show i = 0 ∨ i = 1 by omega) with rfl | rfl <;> omega
      have hzs : (i + 1) * n = z + n := by rw [hz, Nat.succ_mul]
      rw [← hz]
      have HZ := Lib.hid hzs
      clear hz hzs
      have e1 : IntKind.i64.wrap ((z : Int) + (n : Int)) = (z : Int) + (n : Int) := by rw [IntKind.wrap_i64]; omega
      have e2 : ¬ ((z : Int) + (n : Int) < 0) := by omega
      go_wp2_with fail
      go_roundw
      case rel => exact ⟨i + 1, by omega, by rw [HZ.out]; simp, by go_num, Lib.hid (by first | rfl | trivial)⟩
      case measure => simp [intOf]; omega
    case neg =>
      obtain rfl : i = 2 := by omega
      have q1 : ¬ ((2 : Nat) : Int) < 2 := by omega
      obtain ⟨z, hz⟩ : ∃ z, z = 2 * n := ⟨_, rfl⟩
      have hz1 : z ≤ 25600 := by omega
      have hz2 : 0 < z := by omega
      rw [← hz]
      have HZ := Lib.hid hz
      clear hz
      go_wp2_with (go_at_call 129; refine (growP_any z _ hz1 hz2).mono ?_; rintro e w2 ⟨⟨a2, c2, rfl, o2⟩, bw2⟩; have O2 := Lib.hid o2; clear o2)
      have O3 : Hid (w2.ownsRow w.heap.size 66 2 (.slice a2 0 c2) 0 (ptQ X Y n 0)) := Lib.hid (by unfold ptQ; rw [Nat.zero_mul]; exact O2.out)
      have hs2 := bw2.size
      have HB2 := Lib.hid bw2
      clear bw2 O2
      go_loopw [6, 27] (fun s6 s27 wr => ∃ (i q : Nat) (a8 : Option Addr) (c8 : Nat), i ≤ 2 ∧ q ≤ 25600 ∧ s6 = .slice a8 q c8 ∧ s27 = .int .i64 (i : Nat) ∧ Hid (q = i * n) ∧ Hid (Below w.heap.size w wr) ∧ Hid (wr.ownsRow w.heap.size 66 2 (.slice a8 q c8) q (ptQ X Y n i))) (fun _ s27 _ => 2 - (intOf s27).toNat)
      case atStart => exact ⟨0, 0, a2, c2, by omega, by omega, rfl, rfl, Lib.hid (by omega), HB2, O3⟩
      case round =>
        clear HB2 O3 hs2
        obtain ⟨i, q, a8, c8, hil, hq3, rfl, rfl, HQ, HB, HO⟩ := hrel
        by_cases hlt : i < 2
        case neg =>
          obtain rfl : i = 2 := by omega
          have q1 : ¬ ((2 : Nat) : Int) < 2 := by omega
          have hfin : TwiceRes w.heap.size n X Y (.returned (.slice a8 q c8)) wr := by
            have ho := HO.out
            have hq := HQ.out
            unfold ptQ at ho
            rw [hq] at ho ⊢
            rcases ho.2 with ⟨_, h0'⟩ | ⟨g9, cap9, cur9, e9, _, _, k9, _⟩
            · omega
            · cases e9
              exact ⟨g9, c8, rfl, k9, own_pts ho⟩
          have HFIN := Lib.hid hfin
          clear hfin
          go_wp2_with fail
          go_ret
          exact ⟨HFIN.out, HB.out⟩
        have q1 : ((i : Nat) : Int) < 2 := by omega
        have q0 : (0 : Int) ≤ ((i : Nat) : Int) := by omega
        have r1 := keepC HB.out (XI.out i hlt)
        have hnw := ptC_news (HP.out.below HB.out)
        have HNW := Lib.hid hnw
        have hws := HB.out.size
        have hqs : q + n ≤ 25600 := by have := HQ.out; rcases (show i = 0 ∨ i = 1 by omega) with rfl | rfl <;> omega
        have HST := Lib.hid (ptQ_step X Y n i h0 hlt)
        clear hnw
        go_wp2_with (at_builtin; go_loud (refine wpList_append_own_at _ rfl _ _ 26 rfl w.heap.size 66 i1 _ 2 16 Tryd.underlying26 hj hy0 hy1 hy2 rfl (by decide) _ _ _ rfl HO.out ⟨b, off, none⟩ n c (ptC X Y n) rfl (ptC_len X Y n) HNW.out (ptC_one X Y n) ?c3 ?c4 hws ?_))
        case c3 => unfold maxLen; omega
        case c4 => omega
        intro v' wn hown' hgrow _ hat
        rw [HST.out] at hown'
        obtain ⟨a9, c9, rfl⟩ := own_slP hown'
        have HO6 := Lib.hid hown'
        have HB6 := Lib.hid (show Below w.heap.size w wn from Below.grown HB.out hgrow hws (fun t ht => (HO.out.lt t ht).1))
        have HQ6 : Hid (q + n = (i + 1) * n) := Lib.hid (by rw [HQ.out, Nat.succ_mul])
        clear hown' hgrow hat
        go_wp2_with fail
        go_roundw
        case rel => exact ⟨i + 1, q + n, a9, c9, by omega, hqs, rfl, by go_num, HQ6, HB6, HO6⟩
        case measure => simp [intOf]; omega
end Go.Proofs.YtfbalpkjcfdakaaDoor
