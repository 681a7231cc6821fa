/- The model's decimal numerals: some text, for numbers of at most nine digits. -/
import Derived.Test.YtlbanaoabifaiaaDoorPaW
namespace Go.Proofs.YtlbanaoabifaiaaDoor
open Go.RowKit
set_option linter.unusedVariables false
set_option linter.unusedSimpArgs false

theorem infoU : (Tryd.prog.info? 5).map (fun i => (i.zero, i.size, i.bytes)) = some (some (.int .u8 0), 1, 1) := by kernel_rfl
theorem own_one (wr : World) (B : Nat) (x : Value) (hB : B ≤ wr.heap.size) : (wr.alloc (.cells #[x] 5)).ownsRow B 5 1 (.slice (some ⟨wr.heap.size, 0, none⟩) 1 1) 1 [x] :=
  ⟨rfl, .inr ⟨wr.heap.size, 1, #[x], rfl, hB, heap_alloc_new wr _, Nat.le_refl _, by unfold maxLen; decide, rfl, rfl⟩⟩
theorem conv_any {W : World} {B g n cap : Nat} {bs : List Int} (h : W.ownsRow B 5 1 (.slice (some ⟨g, 0, none⟩) n cap) n (bs.map (Value.int .u8))) : (convert 22 9 (.slice (some ⟨g, 0, none⟩) n cap)).run Tryd.prog W = .ok (.string (strOfNums bs)) W := by
  have hl : n = bs.length := by have := h.1; simp at this; omega
  subst hl
  exact run_convert_bytes_arg (P := Tryd.prog) W 22 5 Tryd.underlying22 Tryd.underlying5 g 0 bs.length cap bs rfl (fun i hi => by
    have hc := h.cells (g := g) rfl i (.int .u8 (bs.getD i 0)) (by rw [List.getElem?_map, List.getElem?_eq_getElem hi, List.getD, List.getElem?_eq_getElem hi]; rfl)
    rw [addN] at hc
    simpa using hc) 9 Tryd.underlying9

theorem own_cells {W : World} {B g n cap : Nat} {bs : List Int} (h : W.ownsRow B 5 1 (.slice (some ⟨g, 0, none⟩) n cap) n (bs.map (Value.int .u8))) (o : Obj) : ∀ (j : Nat) (a : Int), bs[j]? = some a → (W.alloc o).cell? ⟨g, j, none⟩ = some (.int .u8 a) := fun j a hj => by
  have := (h.alloc o).cells (g := g) rfl j (.int .u8 a) (by rw [List.getElem?_map, hj]; rfl)
  rwa [addN] at this
theorem own_next {W : World} {B : Nat} {v : Value} {x : Int} {bs : List Int} (h : W.ownsRow B 5 1 v (1 + bs.length) (Value.int IntKind.u8 x :: bs.map (Value.int .u8))) :
    ∃ g cap, v = .slice (some ⟨g, 0, none⟩) (bs.length + 1) cap ∧ W.ownsRow B 5 1 (.slice (some ⟨g, 0, none⟩) (bs.length + 1) cap) (bs.length + 1) ((x :: bs).map (Value.int .u8)) := by
  rw [Nat.add_comm] at h
  rcases h.2 with ⟨_, h0⟩ | ⟨g, cap, cur, rfl, _⟩
  · omega
  · exact ⟨g, cap, rfl, h⟩

set_option maxHeartbeats 4000000 in
theorem l01Number_pos (n : Int) (w : World) (h1 : 0 < n) (h2 : n < 1000000000) : Calls Tryd.prog 49 #[.int .i64 n] w fun e w' => (∃ u, e = .returned (.string u)) ∧ Below w.heap.size w w' := by
  obtain ⟨i0, hi, hz0, hz1, hz2⟩ := info_parts infoU
  have e0 : (n == 0) = false := by simp; omega
  go_enter Tryd.func49, Tryd.ntmps49
  go_wp2_with fail
  go_loopw [3, 4] (fun v m wr => ∃ (z : Int) (bs : List Int) (g cap : Nat), 0 ≤ z ∧ z ≤ n ∧ m = .int .i64 z ∧ v = .slice (some ⟨g, 0, none⟩) bs.length cap ∧ wr.ownsRow w.heap.size 5 1 (.slice (some ⟨g, 0, none⟩) bs.length cap) bs.length (bs.map (Value.int .u8)) ∧ Below w.heap.size w wr ∧ bs.length + z.natAbs ≤ n.natAbs) (fun _ m _ => (intOf m).natAbs)
  case atStart =>
    refine ⟨n, [], _, _, by omega, Int.le_refl _, rfl, rfl, ?_, by (repeat (first | (with_reducible exact Below.refl _ _) | (with_reducible refine Ext.drewN ?_ _) | (with_reducible refine Below.drew ?_) | (with_reducible refine Ext.alloc ?_ _) | (with_reducible refine Ext.setCell ?_ (by simp; try omega) _) | (with_reducible refine Ext.trans ?_ (by assumption)) | (with_reducible assumption) | exact Below.refl _ _)), by simp⟩
    exact World.ownsRow_made w #[] 0 (Nat.le_refl _) (by unfold maxLen; decide) rfl
  case round =>
    obtain ⟨z, bs, g, cap, z0, z1, rfl, rfl, hown, hb, hlen⟩ := hrel
    by_cases hz : z = 0
    · subst hz
      have n0 : ¬ n < 0 := by omega
      have hconv := conv_any hown
      go_wp2_with fail
      go_ret
      exact ⟨⟨_, rfl⟩, hb⟩
    · have q0 : (z != 0) = true := by simpa using hz
      have d0 : ¬ z % 10 < 0 := by omega
      have m0 : z / 10 < z := by omega
      go_wp2_with (at_builtin; refine wpList_append_own _ rfl _ _ 22 rfl w.heap.size 5 i0 (.int .u8 0) 1 1 Tryd.underlying22 hi hz0 hz1 hz2 rfl (by decide) _ _ _ rfl (own_one wr w.heap.size (.int .u8 (48 + z % 10)) hb.size) ⟨g, 0, none⟩ bs.length cap (bs.map (Value.int .u8)) rfl (by simp) ?c1 ?c2 ?c3 ?c4 ?c5 ?_)
      case c1 => first | exact own_cells hown _ | exact (hown.alloc _).cells rfl
      case c2 => first | (intro a _; rfl) | (intro u hu; obtain ⟨x, _, rfl⟩ := List.mem_map.1 hu; rfl)
      case c3 => unfold maxLen; omega
      case c4 => omega
      case c5 => have := hb.size; omega
      intro v' w1 hown' hgrow _
      have hb1 : Below w.heap.size w w1 := (hb.alloc hb.size _).grown hgrow (by have := hb.size; simp; omega) (fun j hj => by cases hj; exact hb.size)
      obtain ⟨g', cap', rfl, hown1⟩ := own_next hown'
      clear hown' hgrow hown
      go_wp2_with fail
      go_roundw
      case rel => refine ⟨z / 10, _ :: bs, g', cap', by omega, by omega, rfl, rfl, hown1, hb1, by rw [List.length_cons]; omega⟩
      case measure => simp [intOf]; omega

set_option maxHeartbeats 4000000 in
set_option maxRecDepth 100000 in
theorem l01Number_neg (n : Int) (w : World) (h1 : -1000000000 < n) (h2 : n < 0) : Calls Tryd.prog 49 #[.int .i64 n] w fun e w' => (∃ u, e = .returned (.string u)) ∧ Below w.heap.size w w' := by
  obtain ⟨i0, hi, hz0, hz1, hz2⟩ := info_parts infoU
  have e0 : (n == 0) = false := by simp; omega
  have hN : n.natAbs < 1000000000 := by omega
  clear h1
  go_enter Tryd.func49, Tryd.ntmps49
  go_wp2_with fail
  go_loopw [3, 4] (fun v m wr => ∃ (z : Int) (bs : List Int) (g cap : Nat), n ≤ z ∧ z ≤ 0 ∧ m = .int .i64 z ∧ v = .slice (some ⟨g, 0, none⟩) bs.length cap ∧ wr.ownsRow w.heap.size 5 1 (.slice (some ⟨g, 0, none⟩) bs.length cap) bs.length (bs.map (Value.int .u8)) ∧ Below w.heap.size w wr ∧ bs.length + z.natAbs ≤ n.natAbs) (fun _ m _ => (intOf m).natAbs)
  case atStart =>
    refine ⟨n, [], _, _, Int.le_refl _, by omega, rfl, rfl, ?_, by (repeat (first | (with_reducible exact Below.refl _ _) | (with_reducible refine Ext.drewN ?_ _) | (with_reducible refine Below.drew ?_) | (with_reducible refine Ext.alloc ?_ _) | (with_reducible refine Ext.setCell ?_ (by simp; try omega) _) | (with_reducible refine Ext.trans ?_ (by assumption)) | (with_reducible assumption) | exact Below.refl _ _)), by simp⟩
    exact World.ownsRow_made w #[] 0 (Nat.le_refl _) (by unfold maxLen; decide) rfl
  case round =>
    obtain ⟨z, bs, g, cap, z0, z1, rfl, rfl, hown, hb, hlen⟩ := hrel
    by_cases hz : z = 0
    · subst hz
      have n0 : n < 0 := by omega
      go_wp2_with (at_builtin; refine wpList_append_own _ rfl _ _ 22 rfl w.heap.size 5 i0 (.int .u8 0) 1 1 Tryd.underlying22 hi hz0 hz1 hz2 rfl (by decide) _ _ _ rfl (own_one wr w.heap.size (.int .u8 (45)) hb.size) ⟨g, 0, none⟩ bs.length cap (bs.map (Value.int .u8)) rfl (by simp) ?f1 ?f2 ?f3 ?f4 ?f5 ?_)
      case f1 => first | exact own_cells hown _ | exact (hown.alloc _).cells rfl
      case f2 => first | (intro a _; rfl) | (intro u hu; obtain ⟨x, _, rfl⟩ := List.mem_map.1 hu; rfl)
      case f3 => unfold maxLen; omega
      case f4 => omega
      case f5 => have := hb.size; (try simp only [World.size_alloc]); omega
      intro v' w1 hown' hgrow _
      have hb1 : Below w.heap.size w w1 := (hb.alloc hb.size _).grown hgrow (by have := hb.size; simp; omega) (fun j hj => by cases hj; exact hb.size)
      obtain ⟨g', cap', rfl, hown1⟩ := own_next hown'
      clear hown' hgrow hown
      have hconv := conv_any hown1
      go_wp2_with fail
      go_ret
      exact ⟨⟨_, rfl⟩, hb1⟩
    · have q0 : (z != 0) = true := by simpa using hz
      obtain ⟨u, hu⟩ : ∃ u : Nat, z = -(u : Int) := ⟨z.natAbs, by omega⟩
      have t1 : z.tmod 10 = -((u : Int) % 10) := by rw [hu, Int.neg_tmod, Int.tmod_eq_emod_of_nonneg (by omega)]
      have t2 : z.tdiv 10 = -((u : Int) / 10) := by rw [hu, Int.neg_tdiv, Int.tdiv_eq_ediv_of_nonneg (by omega)]
      have m0 : z < z.tdiv 10 := by omega
      have m1 : z.tdiv 10 ≤ 0 := by omega
      rcases (show z.tmod 10 < 0 ∨ ¬ z.tmod 10 < 0 by omega) with hd | hd
      · have r0 : -z.tmod 10 ≤ 9 := by omega
        clear t1 t2 hu
        go_wp2_with (at_builtin; refine wpList_append_own _ rfl _ _ 22 rfl w.heap.size 5 i0 (.int .u8 0) 1 1 Tryd.underlying22 hi hz0 hz1 hz2 rfl (by decide) _ _ _ rfl (own_one wr w.heap.size (.int .u8 (48 + -z.tmod 10)) hb.size) ⟨g, 0, none⟩ bs.length cap (bs.map (Value.int .u8)) rfl (by simp) ?c1 ?c2 ?c3 ?c4 ?c5 ?_)
        case c1 => first | exact own_cells hown _ | exact (hown.alloc _).cells rfl
        case c2 => first | (intro a _; rfl) | (intro u hu; obtain ⟨x, _, rfl⟩ := List.mem_map.1 hu; rfl)
        case c3 => unfold maxLen; omega
        case c4 => omega
        case c5 => have := hb.size; (try simp only [World.size_alloc]); omega
        intro v' w1 hown' hgrow _
        have hb1 : Below w.heap.size w w1 := (hb.alloc hb.size _).grown hgrow (by have := hb.size; simp; omega) (fun j hj => by cases hj; exact hb.size)
        obtain ⟨g', cap', rfl, hown1⟩ := own_next hown'
        clear hown' hgrow hown
        go_wp2_with fail
        go_roundw
        case rel => refine ⟨z.tdiv 10, _ :: bs, g', cap', by omega, by omega, rfl, rfl, hown1, hb1, by rw [List.length_cons]; omega⟩
        case measure =>
          show (z.tdiv 10).natAbs < z.natAbs
          omega
      · have r0 : z.tmod 10 = 0 := by omega
        clear t1 t2 hu
        go_wp2_with (at_builtin; refine wpList_append_own _ rfl _ _ 22 rfl w.heap.size 5 i0 (.int .u8 0) 1 1 Tryd.underlying22 hi hz0 hz1 hz2 rfl (by decide) _ _ _ rfl (own_one wr w.heap.size (.int .u8 48) hb.size) ⟨g, 0, none⟩ bs.length cap (bs.map (Value.int .u8)) rfl (by simp) ?d1 ?d2 ?d3 ?d4 ?d5 ?_)
        case d1 => first | exact own_cells hown _ | exact (hown.alloc _).cells rfl
        case d2 => first | (intro a _; rfl) | (intro u hu; obtain ⟨x, _, rfl⟩ := List.mem_map.1 hu; rfl)
        case d3 => unfold maxLen; omega
        case d4 => omega
        case d5 => have := hb.size; (try simp only [World.size_alloc]); omega
        intro v' w1 hown' hgrow _
        have hb1 : Below w.heap.size w w1 := (hb.alloc hb.size _).grown hgrow (by have := hb.size; simp; omega) (fun j hj => by cases hj; exact hb.size)
        obtain ⟨g', cap', rfl, hown1⟩ := own_next hown'
        clear hown' hgrow hown
        go_wp2_with fail
        go_roundw
        case rel => refine ⟨z.tdiv 10, _ :: bs, g', cap', by omega, by omega, rfl, rfl, hown1, hb1, by rw [List.length_cons]; omega⟩
        case measure =>
          show (z.tdiv 10).natAbs < z.natAbs
          omega

theorem l01Number_some (n : Int) (w : World) (h1 : -1000000000 < n) (h2 : n < 1000000000) : Calls Tryd.prog 49 #[.int .i64 n] w fun e w' => (∃ u, e = .returned (.string u) ∧ (-99 ≤ n → n ≤ 99 → u = itoaB n)) ∧ Below w.heap.size w w' := by
  rcases (show (-99 ≤ n ∧ n ≤ 99) ∨ (99 < n ∧ 0 < n) ∨ (n < -99 ∧ n < 0) by omega) with h | h | h
  · exact (l01Number_itoa n w h.1 h.2).mono fun e w' ⟨he, hb⟩ => ⟨⟨_, he, fun _ _ => rfl⟩, hb⟩
  · exact (l01Number_pos n w h.2 h2).mono fun e w' ⟨⟨u, he⟩, hb⟩ => ⟨⟨_, he, fun _ _ => by omega⟩, hb⟩
  · exact (l01Number_neg n w h1 h.2).mono fun e w' ⟨⟨u, he⟩, hb⟩ => ⟨⟨_, he, fun _ _ => by omega⟩, hb⟩
end Go.Proofs.YtlbanaoabifaiaaDoor
