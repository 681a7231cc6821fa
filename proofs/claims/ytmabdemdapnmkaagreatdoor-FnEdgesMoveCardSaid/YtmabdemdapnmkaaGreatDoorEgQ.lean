/- The model's edge length; FnExactEdgeLength answers true. No condition. -/
import Derived.Test.YtmabdemdapnmkaaGreatDoorEgP
namespace Go.Proofs.YtmabdemdapnmkaaGreatDoor
open Go.RowKit
set_option linter.unusedVariables false
set_option linter.unusedSimpArgs false
attribute [local go_sem ↓] Go.wp_at_zero Go.wp_at_succ

theorem eqPt2 (a b c d : Int) (w : World) : (Op.equalIn 10000 71 (.agg #[.int .i64 a, .int .i64 b]) (.agg #[.int .i64 c, .int .i64 d])).run Tryz.prog w = .ok (a == c && b == d) w := by
  have hq : ∀ (a b : Int) (w : World), (Op.equalIn 9999 2 (.int .i64 a) (.int .i64 b)).run Tryz.prog w = .ok (a == b) w := fun a b w => run_equalIn_int w 9998 _ _ .i64 a b Tryz.underlying2
  have hs : Tryz.prog.stoodInHeld 71 = false := by kernel_rfl
  have hu : Tryz.prog.underlying 71 = some (.struct (Tryz.prog.fieldsOf 71)) := by kernel_rfl
  rw [run_equalIn_agg w 9999 _ _ _ hu hs]
  have hp : ∀ (x0 x1 : Int) (w : World), (part 2 #[.int .i64 x0, .int .i64 x1] 0).run Tryz.prog w = .ok (.int .i64 x0) w ∧ (part 2 #[.int .i64 x0, .int .i64 x1] 1).run Tryz.prog w = .ok (.int .i64 x1) w :=
    fun _ _ _ => ⟨by kernel_rfl, by kernel_rfl⟩
  have hf : (Tryz.prog.fieldsOf 71).toList.map (fun f => (f.name, f.type, f.offset)) = [("X", 2, 0), ("Y", 2, 1)] := by kernel_rfl
  generalize (Tryz.prog.fieldsOf 71).toList = fs at hf
  rcases fs with _ | ⟨f0, _ | ⟨f1, _ | ⟨f2, r⟩⟩⟩
  · simp at hf
  · simp at hf
  · simp only [List.map_cons, List.map_nil, List.cons.injEq, Prod.mk.injEq, and_true] at hf
    obtain ⟨⟨n0, t0, o0⟩, n1, t1, o1⟩ := hf
    simp only [Op.eqFields, n0, t0, o0, n1, t1, o1]
    simp only [ne_eq, String.reduceEq, not_false_eq_true, if_true, Sem.run_bind, (hp _ _ _).1, (hp _ _ _).2, Result.andThen_ok, hq, Sem.run_ite, Sem.run_pure]
    cases h0 : a == c <;> cases h1 : b == d <;> simp
  · simp at hf

theorem l06Abs_any (n : Int) (w : World) (hn : -1000 ≤ n ∧ n ≤ 1000) : Calls Tryz.prog 143 #[.int .i64 n] w fun e w' => e = .returned (.int .i64 (max n (-n))) ∧ w = w' := by
  obtain ⟨n1, n2⟩ := hn
  have e1 : IntKind.i64.wrap (-n) = -n := by rw [IntKind.wrap_i64]; omega
  go_enter Tryz.func143, Tryz.ntmps143
  go_wp2_with fail
  all_goals
    go_ret
    exact ⟨ret_int (by omega), rfl⟩
theorem l06Length_any (a b c d : Int) (w : World) (h1 : -40 ≤ a ∧ a ≤ 40) (h2 : -40 ≤ b ∧ b ≤ 40) (h3 : -40 ≤ c ∧ c ≤ 40) (h4 : -40 ≤ d ∧ d ≤ 40) : Calls Tryz.prog 112 #[.agg #[.int .i64 a, .int .i64 b, .int .i64 c, .int .i64 d]] w fun e w' => e = .returned (.int .i64 (max (c - a) (a - c) + max (d - b) (b - d))) ∧ Below w.heap.size w w' := by
  have e1 : IntKind.i64.wrap (c - a) = c - a := by rw [IntKind.wrap_i64]; omega
  have e2 : IntKind.i64.wrap (d - b) = d - b := by rw [IntKind.wrap_i64]; omega
  have e3 : max (c - a) (-(c - a)) + max (d - b) (-(d - b)) = max (c - a) (a - c) + max (d - b) (b - d) := by omega
  have e4 : IntKind.i64.wrap (max (c - a) (-(c - a)) + max (d - b) (-(d - b))) = max (c - a) (a - c) + max (d - b) (b - d) := by rw [IntKind.wrap_i64, e3]; omega
  go_enter Tryz.func112, Tryz.ntmps112
  go_wp2_with fail
  go_region_held3 (fun w' => w.heap.size < w'.heap.size ∧ Below w.heap.size w w' ∧ w'.cell? ⟨w.heap.size, 0, none⟩ = some (.int .i64 a) ∧ w'.cell? ⟨w.heap.size, 1, none⟩ = some (.int .i64 b) ∧ w'.cell? ⟨w.heap.size, 2, none⟩ = some (.int .i64 c) ∧ w'.cell? ⟨w.heap.size, 3, none⟩ = some (.int .i64 d))
    (first | ((try dsimp only); go_split_ands; (repeat' (with_reducible refine And.intro ?_ ?_)) <;> first | ((repeat (with_reducible refine keepS ?_ (by simp; try omega) _)); (first | (with_reducible assumption) | (with_reducible exact keepC (by assumption) (by assumption)) | (with_reducible exact keepA (by assumption) _) | (with_reducible exact keepR (by assumption) (by omega) _))) | ((try simp only [World.size_alloc, World.size_setCell, World.size_drew]); omega) | (refine Mats.below hM ?_ hM.size; (repeat (first | (with_reducible exact Below.refl _ _) | (with_reducible refine Ext.drewN ?_ _) | (with_reducible refine Below.drew ?_) | (with_reducible refine Ext.alloc ?_ _) | (with_reducible refine Ext.setCell ?_ (by simp; try omega) _) | (with_reducible refine Ext.trans ?_ (by assumption)) | (with_reducible assumption) | exact Below.refl _ _)); done) | ((repeat (first | (with_reducible exact Below.refl _ _) | (with_reducible refine Ext.drewN ?_ _) | (with_reducible refine Below.drew ?_) | (with_reducible refine Ext.alloc ?_ _) | (with_reducible refine Ext.setCell ?_ (by simp; try omega) _) | (with_reducible refine Ext.trans ?_ (by assumption)) | (with_reducible assumption) | exact Below.refl _ _)); done) | (go_keep; done)))
    (first | (go_at_call 143; refine (l06Abs_any _ _ (by omega)).mono ?_; rintro e v1 ⟨rfl, hv1⟩; subst hv1))
  all_goals
    go_wp2_with fail
    go_ret
    exact ⟨ret_int (by first | rfl | exact e4 | exact e3 | (rw [IntKind.wrap_i64]; omega) | omega), by (repeat (first | (with_reducible exact Below.refl _ _) | (with_reducible refine Ext.drewN ?_ _) | (with_reducible refine Below.drew ?_) | (with_reducible refine Ext.alloc ?_ _) | (with_reducible refine Ext.setCell ?_ (by simp; try omega) _) | (with_reducible refine Ext.trans ?_ (by assumption)) | (with_reducible assumption) | exact Below.refl _ _))⟩

set_option maxHeartbeats 4000000 in
theorem specEdgeLength_any (a b c d : Int) (w : World) : Calls Tryz.prog 68 #[.agg #[.int .i64 a, .int .i64 b, .int .i64 c, .int .i64 d]] w fun e w' => e = .returned (.int .i64 (elV a b c d)) ∧ Below w.heap.size w w' := by
  have hE := fun w => eqPt2 a b c d w
  cases h1 : onB a b with
  | false =>
    rw [elV_f (by simp [elB, h1])]
    go_enter Tryz.func68, Tryz.ntmps68
    go_wp2_with fail
    go_call (l01OnChip_any a b _) as e w1 ⟨rfl, bw1⟩
    obtain ⟨sw1, zw1, cw1, fw1⟩ := bcell bw1
    try simp only [World.size_alloc, World.size_setCell, World.size_drew] at sw1
    try have lw1_w_0 : w.heap.size < w1.heap.size := by omega
    try have lw1_w_1 : w.heap.size + 1 < w1.heap.size := by omega
    try have lw1_w_2 : w.heap.size + 1 + 1 < w1.heap.size := by omega
    try have lw1_w_3 : w.heap.size + 1 + 1 + 1 < w1.heap.size := by omega
    try have lw1_w_4 : w.heap.size + 1 + 1 + 1 + 1 < w1.heap.size := by omega
    try have lw1_w_5 : w.heap.size + 1 + 1 + 1 + 1 + 1 < w1.heap.size := by omega
    try have lw1_w_6 : w.heap.size + 1 + 1 + 1 + 1 + 1 + 1 < w1.heap.size := by omega
    rw [h1]
    go_wp2_with fail
    go_ret
    exact ⟨rfl, by (repeat (first | (with_reducible exact Below.refl _ _) | (with_reducible refine Ext.drewN ?_ _) | (with_reducible refine Below.drew ?_) | (with_reducible refine Ext.alloc ?_ _) | (with_reducible refine Ext.setCell ?_ (by simp; try omega) _) | (with_reducible refine Ext.trans ?_ (by assumption)) | (with_reducible assumption) | exact Below.refl _ _))⟩
  | true =>
    cases h2 : onB c d with
    | false =>
      rw [elV_f (by simp [elB, h2])]
      go_enter Tryz.func68, Tryz.ntmps68
      go_wp2_with fail
      go_call (l01OnChip_any a b _) as e w1 ⟨rfl, bw1⟩
      obtain ⟨sw1, zw1, cw1, fw1⟩ := bcell bw1
      try simp only [World.size_alloc, World.size_setCell, World.size_drew] at sw1
      try have lw1_w_0 : w.heap.size < w1.heap.size := by omega
      try have lw1_w_1 : w.heap.size + 1 < w1.heap.size := by omega
      try have lw1_w_2 : w.heap.size + 1 + 1 < w1.heap.size := by omega
      try have lw1_w_3 : w.heap.size + 1 + 1 + 1 < w1.heap.size := by omega
      try have lw1_w_4 : w.heap.size + 1 + 1 + 1 + 1 < w1.heap.size := by omega
      try have lw1_w_5 : w.heap.size + 1 + 1 + 1 + 1 + 1 < w1.heap.size := by omega
      try have lw1_w_6 : w.heap.size + 1 + 1 + 1 + 1 + 1 + 1 < w1.heap.size := by omega
      rw [h1]
      go_wp2_with fail
      go_call (l01OnChip_any c d _) as e w2 ⟨rfl, bw2⟩
      obtain ⟨sw2, zw2, cw2, fw2⟩ := bcell bw2
      try simp only [World.size_alloc, World.size_setCell, World.size_drew] at sw2
      try have lw2_w_0 : w.heap.size < w2.heap.size := by omega
      try have lw2_w_1 : w.heap.size + 1 < w2.heap.size := by omega
      try have lw2_w_2 : w.heap.size + 1 + 1 < w2.heap.size := by omega
      try have lw2_w_3 : w.heap.size + 1 + 1 + 1 < w2.heap.size := by omega
      try have lw2_w_4 : w.heap.size + 1 + 1 + 1 + 1 < w2.heap.size := by omega
      try have lw2_w_5 : w.heap.size + 1 + 1 + 1 + 1 + 1 < w2.heap.size := by omega
      try have lw2_w_6 : w.heap.size + 1 + 1 + 1 + 1 + 1 + 1 < w2.heap.size := by omega
      try have lw2_w1_0 : w1.heap.size < w2.heap.size := by omega
      try have lw2_w1_1 : w1.heap.size + 1 < w2.heap.size := by omega
      try have lw2_w1_2 : w1.heap.size + 1 + 1 < w2.heap.size := by omega
      try have lw2_w1_3 : w1.heap.size + 1 + 1 + 1 < w2.heap.size := by omega
      try have lw2_w1_4 : w1.heap.size + 1 + 1 + 1 + 1 < w2.heap.size := by omega
      try have lw2_w1_5 : w1.heap.size + 1 + 1 + 1 + 1 + 1 < w2.heap.size := by omega
      try have lw2_w1_6 : w1.heap.size + 1 + 1 + 1 + 1 + 1 + 1 < w2.heap.size := by omega
      rw [h2]
      go_wp2_with fail
      go_ret
      exact ⟨rfl, by (repeat (first | (with_reducible exact Below.refl _ _) | (with_reducible refine Ext.drewN ?_ _) | (with_reducible refine Below.drew ?_) | (with_reducible refine Ext.alloc ?_ _) | (with_reducible refine Ext.setCell ?_ (by simp; try omega) _) | (with_reducible refine Ext.trans ?_ (by assumption)) | (with_reducible assumption) | exact Below.refl _ _))⟩
    | true =>
      obtain ⟨x1, x2⟩ := onB_t h1
      obtain ⟨y1, y2⟩ := onB_t h2
      by_cases p : a = c
      · by_cases q : b = d
        · subst p q
          rw [elV_f (by simp [elB])]
          have hE' : ∀ w, (Op.equalIn 10000 71 (.agg #[.int .i64 a, .int .i64 b]) (.agg #[.int .i64 a, .int .i64 b])).run Tryz.prog w = .ok true w := fun w => by rw [hE]; simp
          clear hE
          go_enter Tryz.func68, Tryz.ntmps68
          go_wp2_with fail
          go_call (l01OnChip_any a b _) as e w1 ⟨rfl, bw1⟩
          obtain ⟨sw1, zw1, cw1, fw1⟩ := bcell bw1
          try simp only [World.size_alloc, World.size_setCell, World.size_drew] at sw1
          try have lw1_w_0 : w.heap.size < w1.heap.size := by omega
          try have lw1_w_1 : w.heap.size + 1 < w1.heap.size := by omega
          try have lw1_w_2 : w.heap.size + 1 + 1 < w1.heap.size := by omega
          try have lw1_w_3 : w.heap.size + 1 + 1 + 1 < w1.heap.size := by omega
          try have lw1_w_4 : w.heap.size + 1 + 1 + 1 + 1 < w1.heap.size := by omega
          try have lw1_w_5 : w.heap.size + 1 + 1 + 1 + 1 + 1 < w1.heap.size := by omega
          try have lw1_w_6 : w.heap.size + 1 + 1 + 1 + 1 + 1 + 1 < w1.heap.size := by omega
          rw [h1]
          go_wp2_with fail
          go_call (l01OnChip_any a b _) as e w2 ⟨rfl, bw2⟩
          obtain ⟨sw2, zw2, cw2, fw2⟩ := bcell bw2
          try simp only [World.size_alloc, World.size_setCell, World.size_drew] at sw2
          try have lw2_w_0 : w.heap.size < w2.heap.size := by omega
          try have lw2_w_1 : w.heap.size + 1 < w2.heap.size := by omega
          try have lw2_w_2 : w.heap.size + 1 + 1 < w2.heap.size := by omega
          try have lw2_w_3 : w.heap.size + 1 + 1 + 1 < w2.heap.size := by omega
          try have lw2_w_4 : w.heap.size + 1 + 1 + 1 + 1 < w2.heap.size := by omega
          try have lw2_w_5 : w.heap.size + 1 + 1 + 1 + 1 + 1 < w2.heap.size := by omega
          try have lw2_w_6 : w.heap.size + 1 + 1 + 1 + 1 + 1 + 1 < w2.heap.size := by omega
          try have lw2_w1_0 : w1.heap.size < w2.heap.size := by omega
          try have lw2_w1_1 : w1.heap.size + 1 < w2.heap.size := by omega
          try have lw2_w1_2 : w1.heap.size + 1 + 1 < w2.heap.size := by omega
          try have lw2_w1_3 : w1.heap.size + 1 + 1 + 1 < w2.heap.size := by omega
          try have lw2_w1_4 : w1.heap.size + 1 + 1 + 1 + 1 < w2.heap.size := by omega
          try have lw2_w1_5 : w1.heap.size + 1 + 1 + 1 + 1 + 1 < w2.heap.size := by omega
          try have lw2_w1_6 : w1.heap.size + 1 + 1 + 1 + 1 + 1 + 1 < w2.heap.size := by omega
          rw [h1]
          go_wp2_with fail
          go_ret
          exact ⟨rfl, by (repeat (first | (with_reducible exact Below.refl _ _) | (with_reducible refine Ext.drewN ?_ _) | (with_reducible refine Below.drew ?_) | (with_reducible refine Ext.alloc ?_ _) | (with_reducible refine Ext.setCell ?_ (by simp; try omega) _) | (with_reducible refine Ext.trans ?_ (by assumption)) | (with_reducible assumption) | exact Below.refl _ _))⟩
        · subst p
          rw [elV_t (by simp [elB, h1, h2, q])]
          have hE' : ∀ w, (Op.equalIn 10000 71 (.agg #[.int .i64 a, .int .i64 b]) (.agg #[.int .i64 a, .int .i64 d])).run Tryz.prog w = .ok false w := fun w => by rw [hE]; simp [q]
          clear hE
          go_enter Tryz.func68, Tryz.ntmps68
          go_wp2_with fail
          go_call (l01OnChip_any a b _) as e w1 ⟨rfl, bw1⟩
          obtain ⟨sw1, zw1, cw1, fw1⟩ := bcell bw1
          try simp only [World.size_alloc, World.size_setCell, World.size_drew] at sw1
          try have lw1_w_0 : w.heap.size < w1.heap.size := by omega
          try have lw1_w_1 : w.heap.size + 1 < w1.heap.size := by omega
          try have lw1_w_2 : w.heap.size + 1 + 1 < w1.heap.size := by omega
          try have lw1_w_3 : w.heap.size + 1 + 1 + 1 < w1.heap.size := by omega
          try have lw1_w_4 : w.heap.size + 1 + 1 + 1 + 1 < w1.heap.size := by omega
          try have lw1_w_5 : w.heap.size + 1 + 1 + 1 + 1 + 1 < w1.heap.size := by omega
          try have lw1_w_6 : w.heap.size + 1 + 1 + 1 + 1 + 1 + 1 < w1.heap.size := by omega
          rw [h1]
          go_wp2_with fail
          go_call (l01OnChip_any a d _) as e w2 ⟨rfl, bw2⟩
          obtain ⟨sw2, zw2, cw2, fw2⟩ := bcell bw2
          try simp only [World.size_alloc, World.size_setCell, World.size_drew] at sw2
          try have lw2_w_0 : w.heap.size < w2.heap.size := by omega
          try have lw2_w_1 : w.heap.size + 1 < w2.heap.size := by omega
          try have lw2_w_2 : w.heap.size + 1 + 1 < w2.heap.size := by omega
          try have lw2_w_3 : w.heap.size + 1 + 1 + 1 < w2.heap.size := by omega
          try have lw2_w_4 : w.heap.size + 1 + 1 + 1 + 1 < w2.heap.size := by omega
          try have lw2_w_5 : w.heap.size + 1 + 1 + 1 + 1 + 1 < w2.heap.size := by omega
          try have lw2_w_6 : w.heap.size + 1 + 1 + 1 + 1 + 1 + 1 < w2.heap.size := by omega
          try have lw2_w1_0 : w1.heap.size < w2.heap.size := by omega
          try have lw2_w1_1 : w1.heap.size + 1 < w2.heap.size := by omega
          try have lw2_w1_2 : w1.heap.size + 1 + 1 < w2.heap.size := by omega
          try have lw2_w1_3 : w1.heap.size + 1 + 1 + 1 < w2.heap.size := by omega
          try have lw2_w1_4 : w1.heap.size + 1 + 1 + 1 + 1 < w2.heap.size := by omega
          try have lw2_w1_5 : w1.heap.size + 1 + 1 + 1 + 1 + 1 < w2.heap.size := by omega
          try have lw2_w1_6 : w1.heap.size + 1 + 1 + 1 + 1 + 1 + 1 < w2.heap.size := by omega
          rw [h2]
          go_wp2_with fail
          go_call (l06Length_any a b a d _ x1 x2 y1 y2) as e w3 ⟨rfl, bw3⟩
          obtain ⟨sw3, zw3, cw3, fw3⟩ := bcell bw3
          try simp only [World.size_alloc, World.size_setCell, World.size_drew] at sw3
          try have lw3_w_0 : w.heap.size < w3.heap.size := by omega
          try have lw3_w_1 : w.heap.size + 1 < w3.heap.size := by omega
          try have lw3_w_2 : w.heap.size + 1 + 1 < w3.heap.size := by omega
          try have lw3_w_3 : w.heap.size + 1 + 1 + 1 < w3.heap.size := by omega
          try have lw3_w_4 : w.heap.size + 1 + 1 + 1 + 1 < w3.heap.size := by omega
          try have lw3_w_5 : w.heap.size + 1 + 1 + 1 + 1 + 1 < w3.heap.size := by omega
          try have lw3_w_6 : w.heap.size + 1 + 1 + 1 + 1 + 1 + 1 < w3.heap.size := by omega
          try have lw3_w1_0 : w1.heap.size < w3.heap.size := by omega
          try have lw3_w1_1 : w1.heap.size + 1 < w3.heap.size := by omega
          try have lw3_w1_2 : w1.heap.size + 1 + 1 < w3.heap.size := by omega
          try have lw3_w1_3 : w1.heap.size + 1 + 1 + 1 < w3.heap.size := by omega
          try have lw3_w1_4 : w1.heap.size + 1 + 1 + 1 + 1 < w3.heap.size := by omega
          try have lw3_w1_5 : w1.heap.size + 1 + 1 + 1 + 1 + 1 < w3.heap.size := by omega
          try have lw3_w1_6 : w1.heap.size + 1 + 1 + 1 + 1 + 1 + 1 < w3.heap.size := by omega
          try have lw3_w2_0 : w2.heap.size < w3.heap.size := by omega
          try have lw3_w2_1 : w2.heap.size + 1 < w3.heap.size := by omega
          try have lw3_w2_2 : w2.heap.size + 1 + 1 < w3.heap.size := by omega
          try have lw3_w2_3 : w2.heap.size + 1 + 1 + 1 < w3.heap.size := by omega
          try have lw3_w2_4 : w2.heap.size + 1 + 1 + 1 + 1 < w3.heap.size := by omega
          try have lw3_w2_5 : w2.heap.size + 1 + 1 + 1 + 1 + 1 < w3.heap.size := by omega
          try have lw3_w2_6 : w2.heap.size + 1 + 1 + 1 + 1 + 1 + 1 < w3.heap.size := by omega
          go_wp2_with fail
          go_ret
          exact ⟨ret_int (by simp), by (repeat (first | (with_reducible exact Below.refl _ _) | (with_reducible refine Ext.drewN ?_ _) | (with_reducible refine Below.drew ?_) | (with_reducible refine Ext.alloc ?_ _) | (with_reducible refine Ext.setCell ?_ (by simp; try omega) _) | (with_reducible refine Ext.trans ?_ (by assumption)) | (with_reducible assumption) | exact Below.refl _ _))⟩
      · by_cases q : b = d
        · subst q
          rw [elV_t (by simp [elB, h1, h2, p])]
          have hE' : ∀ w, (Op.equalIn 10000 71 (.agg #[.int .i64 a, .int .i64 b]) (.agg #[.int .i64 c, .int .i64 b])).run Tryz.prog w = .ok false w := fun w => by rw [hE]; simp [p]
          clear hE
          go_enter Tryz.func68, Tryz.ntmps68
          go_wp2_with fail
          go_call (l01OnChip_any a b _) as e w1 ⟨rfl, bw1⟩
          obtain ⟨sw1, zw1, cw1, fw1⟩ := bcell bw1
          try simp only [World.size_alloc, World.size_setCell, World.size_drew] at sw1
          try have lw1_w_0 : w.heap.size < w1.heap.size := by omega
          try have lw1_w_1 : w.heap.size + 1 < w1.heap.size := by omega
          try have lw1_w_2 : w.heap.size + 1 + 1 < w1.heap.size := by omega
          try have lw1_w_3 : w.heap.size + 1 + 1 + 1 < w1.heap.size := by omega
          try have lw1_w_4 : w.heap.size + 1 + 1 + 1 + 1 < w1.heap.size := by omega
          try have lw1_w_5 : w.heap.size + 1 + 1 + 1 + 1 + 1 < w1.heap.size := by omega
          try have lw1_w_6 : w.heap.size + 1 + 1 + 1 + 1 + 1 + 1 < w1.heap.size := by omega
          rw [h1]
          go_wp2_with fail
          go_call (l01OnChip_any c b _) as e w2 ⟨rfl, bw2⟩
          obtain ⟨sw2, zw2, cw2, fw2⟩ := bcell bw2
          try simp only [World.size_alloc, World.size_setCell, World.size_drew] at sw2
          try have lw2_w_0 : w.heap.size < w2.heap.size := by omega
          try have lw2_w_1 : w.heap.size + 1 < w2.heap.size := by omega
          try have lw2_w_2 : w.heap.size + 1 + 1 < w2.heap.size := by omega
          try have lw2_w_3 : w.heap.size + 1 + 1 + 1 < w2.heap.size := by omega
          try have lw2_w_4 : w.heap.size + 1 + 1 + 1 + 1 < w2.heap.size := by omega
          try have lw2_w_5 : w.heap.size + 1 + 1 + 1 + 1 + 1 < w2.heap.size := by omega
          try have lw2_w_6 : w.heap.size + 1 + 1 + 1 + 1 + 1 + 1 < w2.heap.size := by omega
          try have lw2_w1_0 : w1.heap.size < w2.heap.size := by omega
          try have lw2_w1_1 : w1.heap.size + 1 < w2.heap.size := by omega
          try have lw2_w1_2 : w1.heap.size + 1 + 1 < w2.heap.size := by omega
          try have lw2_w1_3 : w1.heap.size + 1 + 1 + 1 < w2.heap.size := by omega
          try have lw2_w1_4 : w1.heap.size + 1 + 1 + 1 + 1 < w2.heap.size := by omega
          try have lw2_w1_5 : w1.heap.size + 1 + 1 + 1 + 1 + 1 < w2.heap.size := by omega
          try have lw2_w1_6 : w1.heap.size + 1 + 1 + 1 + 1 + 1 + 1 < w2.heap.size := by omega
          rw [h2]
          go_wp2_with fail
          go_call (l06Length_any a b c b _ x1 x2 y1 y2) as e w3 ⟨rfl, bw3⟩
          obtain ⟨sw3, zw3, cw3, fw3⟩ := bcell bw3
          try simp only [World.size_alloc, World.size_setCell, World.size_drew] at sw3
          try have lw3_w_0 : w.heap.size < w3.heap.size := by omega
          try have lw3_w_1 : w.heap.size + 1 < w3.heap.size := by omega
          try have lw3_w_2 : w.heap.size + 1 + 1 < w3.heap.size := by omega
          try have lw3_w_3 : w.heap.size + 1 + 1 + 1 < w3.heap.size := by omega
          try have lw3_w_4 : w.heap.size + 1 + 1 + 1 + 1 < w3.heap.size := by omega
          try have lw3_w_5 : w.heap.size + 1 + 1 + 1 + 1 + 1 < w3.heap.size := by omega
          try have lw3_w_6 : w.heap.size + 1 + 1 + 1 + 1 + 1 + 1 < w3.heap.size := by omega
          try have lw3_w1_0 : w1.heap.size < w3.heap.size := by omega
          try have lw3_w1_1 : w1.heap.size + 1 < w3.heap.size := by omega
          try have lw3_w1_2 : w1.heap.size + 1 + 1 < w3.heap.size := by omega
          try have lw3_w1_3 : w1.heap.size + 1 + 1 + 1 < w3.heap.size := by omega
          try have lw3_w1_4 : w1.heap.size + 1 + 1 + 1 + 1 < w3.heap.size := by omega
          try have lw3_w1_5 : w1.heap.size + 1 + 1 + 1 + 1 + 1 < w3.heap.size := by omega
          try have lw3_w1_6 : w1.heap.size + 1 + 1 + 1 + 1 + 1 + 1 < w3.heap.size := by omega
          try have lw3_w2_0 : w2.heap.size < w3.heap.size := by omega
          try have lw3_w2_1 : w2.heap.size + 1 < w3.heap.size := by omega
          try have lw3_w2_2 : w2.heap.size + 1 + 1 < w3.heap.size := by omega
          try have lw3_w2_3 : w2.heap.size + 1 + 1 + 1 < w3.heap.size := by omega
          try have lw3_w2_4 : w2.heap.size + 1 + 1 + 1 + 1 < w3.heap.size := by omega
          try have lw3_w2_5 : w2.heap.size + 1 + 1 + 1 + 1 + 1 < w3.heap.size := by omega
          try have lw3_w2_6 : w2.heap.size + 1 + 1 + 1 + 1 + 1 + 1 < w3.heap.size := by omega
          go_wp2_with fail
          go_ret
          exact ⟨ret_int (by simp), by (repeat (first | (with_reducible exact Below.refl _ _) | (with_reducible refine Ext.drewN ?_ _) | (with_reducible refine Below.drew ?_) | (with_reducible refine Ext.alloc ?_ _) | (with_reducible refine Ext.setCell ?_ (by simp; try omega) _) | (with_reducible refine Ext.trans ?_ (by assumption)) | (with_reducible assumption) | exact Below.refl _ _))⟩
        · rw [elV_f (by simp [elB, p, q])]
          have p1 : (a != c) = true := by simp [p]
          have q1 : (b != d) = true := by simp [q]
          have hE' : ∀ w, (Op.equalIn 10000 71 (.agg #[.int .i64 a, .int .i64 b]) (.agg #[.int .i64 c, .int .i64 d])).run Tryz.prog w = .ok false w := fun w => by rw [hE]; simp [p]
          clear hE
          go_enter Tryz.func68, Tryz.ntmps68
          go_wp2_with fail
          go_call (l01OnChip_any a b _) as e w1 ⟨rfl, bw1⟩
          obtain ⟨sw1, zw1, cw1, fw1⟩ := bcell bw1
          try simp only [World.size_alloc, World.size_setCell, World.size_drew] at sw1
          try have lw1_w_0 : w.heap.size < w1.heap.size := by omega
          try have lw1_w_1 : w.heap.size + 1 < w1.heap.size := by omega
          try have lw1_w_2 : w.heap.size + 1 + 1 < w1.heap.size := by omega
          try have lw1_w_3 : w.heap.size + 1 + 1 + 1 < w1.heap.size := by omega
          try have lw1_w_4 : w.heap.size + 1 + 1 + 1 + 1 < w1.heap.size := by omega
          try have lw1_w_5 : w.heap.size + 1 + 1 + 1 + 1 + 1 < w1.heap.size := by omega
          try have lw1_w_6 : w.heap.size + 1 + 1 + 1 + 1 + 1 + 1 < w1.heap.size := by omega
          rw [h1]
          go_wp2_with fail
          go_call (l01OnChip_any c d _) as e w2 ⟨rfl, bw2⟩
          obtain ⟨sw2, zw2, cw2, fw2⟩ := bcell bw2
          try simp only [World.size_alloc, World.size_setCell, World.size_drew] at sw2
          try have lw2_w_0 : w.heap.size < w2.heap.size := by omega
          try have lw2_w_1 : w.heap.size + 1 < w2.heap.size := by omega
          try have lw2_w_2 : w.heap.size + 1 + 1 < w2.heap.size := by omega
          try have lw2_w_3 : w.heap.size + 1 + 1 + 1 < w2.heap.size := by omega
          try have lw2_w_4 : w.heap.size + 1 + 1 + 1 + 1 < w2.heap.size := by omega
          try have lw2_w_5 : w.heap.size + 1 + 1 + 1 + 1 + 1 < w2.heap.size := by omega
          try have lw2_w_6 : w.heap.size + 1 + 1 + 1 + 1 + 1 + 1 < w2.heap.size := by omega
          try have lw2_w1_0 : w1.heap.size < w2.heap.size := by omega
          try have lw2_w1_1 : w1.heap.size + 1 < w2.heap.size := by omega
          try have lw2_w1_2 : w1.heap.size + 1 + 1 < w2.heap.size := by omega
          try have lw2_w1_3 : w1.heap.size + 1 + 1 + 1 < w2.heap.size := by omega
          try have lw2_w1_4 : w1.heap.size + 1 + 1 + 1 + 1 < w2.heap.size := by omega
          try have lw2_w1_5 : w1.heap.size + 1 + 1 + 1 + 1 + 1 < w2.heap.size := by omega
          try have lw2_w1_6 : w1.heap.size + 1 + 1 + 1 + 1 + 1 + 1 < w2.heap.size := by omega
          rw [h2]
          go_wp2_with fail
          go_ret
          exact ⟨rfl, by (repeat (first | (with_reducible exact Below.refl _ _) | (with_reducible refine Ext.drewN ?_ _) | (with_reducible refine Below.drew ?_) | (with_reducible refine Ext.alloc ?_ _) | (with_reducible refine Ext.setCell ?_ (by simp; try omega) _) | (with_reducible refine Ext.trans ?_ (by assumption)) | (with_reducible assumption) | exact Below.refl _ _))⟩

theorem toEdge_any (a b c d : Int) (w : World) : Calls Tryz.prog 72 #[.agg #[.int .i64 a, .int .i64 b, .int .i64 c, .int .i64 d]] w fun e w' => e = .returned (.agg #[.int .i64 a, .int .i64 b, .int .i64 c, .int .i64 d]) ∧ Below w.heap.size w w' := by
  go_enter Tryz.func72, Tryz.ntmps72
  go_wp2_with fail
  first | go_ret | (refine bodyPost_ret (v := .agg #[.int .i64 a, .int .i64 b, .int .i64 c, .int .i64 d]) (by simp [*, results, Tryz.results72, go_sem]) rfl ?_)
  exact ⟨rfl, by (repeat (first | (with_reducible exact Below.refl _ _) | (with_reducible refine Ext.drewN ?_ _) | (with_reducible refine Below.drew ?_) | (with_reducible refine Ext.alloc ?_ _) | (with_reducible refine Ext.setCell ?_ (by simp; try omega) _) | (with_reducible refine Ext.trans ?_ (by assumption)) | (with_reducible assumption) | exact Below.refl _ _))⟩

end Go.Proofs.YtmabdemdapnmkaaGreatDoor
