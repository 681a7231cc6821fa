/- SamePolygon, by the model and by the program; FnExactSamePolygon answers true. Condition: the points' cells are in memory. -/
import Derived.Test.YtfbalpkjcfdakaaSmA
namespace Go.Proofs.Ytfbalpkjcfdakaa
open Go.RowKit
set_option linter.unusedVariables false
set_option linter.unusedSimpArgs false
attribute [local go_sem ↓] Go.wp_at_zero Go.wp_at_succ

theorem eqPtQ (a b c d : Int) (w : World) : (Op.equalIn 10000 32 (.agg #[.int .i64 a, .int .i64 b]) (.agg #[.int .i64 c, .int .i64 d])).run Try.prog w = .ok (a == c && b == d) w := by
  have hq : ∀ (a b : Int) (w : World), (Op.equalIn 9999 2 (.int .i64 a) (.int .i64 b)).run Try.prog w = .ok (a == b) w := fun a b w => run_equalIn_int w 9998 _ _ .i64 a b Try.underlying2
  have hs : Try.prog.stoodInHeld 32 = false := by kernel_rfl
  have hu : Try.prog.underlying 32 = some (.struct (Try.prog.fieldsOf 32)) := by kernel_rfl
  rw [run_equalIn_agg w 9999 _ _ _ hu hs]
  have hp : ∀ (x0 x1 : Int) (w : World), (part 2 #[.int .i64 x0, .int .i64 x1] 0).run Try.prog w = .ok (.int .i64 x0) w ∧ (part 2 #[.int .i64 x0, .int .i64 x1] 1).run Try.prog w = .ok (.int .i64 x1) w :=
    fun _ _ _ => ⟨by kernel_rfl, by kernel_rfl⟩
  have hf : (Try.prog.fieldsOf 32).toList.map (fun f => (f.name, f.type, f.offset)) = [("X", 2, 0), ("Y", 2, 1)] := by kernel_rfl
  generalize (Try.prog.fieldsOf 32).toList = fs at hf
  rcases fs with _ | ⟨f0, _ | ⟨f1, _ | ⟨f2, r⟩⟩⟩
  · simp at hf
  · simp at hf
  · simp only [List.map_cons, List.map_nil, List.cons.injEq, Prod.mk.injEq, and_true] at hf
    obtain ⟨⟨n0, t0, o0⟩, n1, t1, o1⟩ := hf
    simp only [Op.eqFields, n0, t0, o0, n1, t1, o1]
    simp only [ne_eq, String.reduceEq, not_false_eq_true, if_true, Sem.run_bind, (hp _ _ _).1, (hp _ _ _).2, Result.andThen_ok, hq, Sem.run_ite, Sem.run_pure]
    cases h0 : a == c <;> cases h1 : b == d <;> simp
  · simp at hf

/-- Are the first n points of two lists equal? -/
def eqlB (X Y U V : Nat → Int) (n : Nat) : Bool := (List.range n).all fun i => X i == U i && Y i == V i
theorem eqlB_t {X Y U V : Nat → Int} {n : Nat} (h : ∀ i, i < n → (X i == U i && Y i == V i) = true) : eqlB X Y U V n = true := by
  unfold eqlB
  rw [List.all_eq_true]
  exact fun i hi => h i (List.mem_range.1 hi)
theorem eqlB_f {X Y U V : Nat → Int} {n i : Nat} (hi : i < n) (h : (X i == U i && Y i == V i) = false) : eqlB X Y U V n = false := by
  unfold eqlB
  rw [List.all_eq_false]
  exact ⟨i, List.mem_range.2 hi, by simp only [h]; simp⟩

set_option maxHeartbeats 4000000 in
theorem equalP_any (a b : Option Addr) (n c1 c2 : Nat) (X Y U V : Nat → Int) (w : World) (hn : n ≤ 1048576) (hP : PtsIs w.heap.size w a n X Y) (hQ : PtsIs w.heap.size w b n U V) :
    Calls Try.prog 23 #[.slice a n c1, .slice b n c2] w fun e w' => e = .returned (.bool (eqlB X Y U V n)) ∧ Below w.heap.size w w' := by
  have HP := Lib.hid hP
  have HQ := Lib.hid hQ
  clear hP hQ
  go_enter Try.func23, Try.ntmps23
  go_wp2_with fail
  go_loopw [13] (fun s wr => ∃ i : Nat, i ≤ n ∧ s = .int .i64 i ∧ Below w.heap.size w wr ∧ Hid (∀ k, k < i → (X k == U k && Y k == V k) = true)) (fun s _ => n - (intOf s).toNat)
  case atStart => exact ⟨0, by omega, rfl, by (repeat (first | (with_reducible exact Below.refl _ _) | (with_reducible refine Ext.drewN ?_ _) | (with_reducible refine Below.drew ?_) | (with_reducible refine Ext.alloc ?_ _) | (with_reducible refine Ext.setCell ?_ (by simp; try omega) _) | (with_reducible refine Ext.trans ?_ (by assumption)) | (with_reducible assumption) | exact Below.refl _ _)), Lib.hid fun k hk => absurd hk (by omega)⟩
  case round =>
    obtain ⟨i, hi, rfl, hW, HA⟩ := hrel
    by_cases hlt : i < n
    · obtain ⟨b1, o1, rfl⟩ := HP.out.base (by omega)
      obtain ⟨b2, o2, rfl⟩ := HQ.out.base (by omega)
      obtain ⟨h1, c0, c1'⟩ := (HP.out.below hW).at rfl hlt
      obtain ⟨h2, d0, d1⟩ := (HQ.out.below hW).at rfl hlt
      have q1 : (i : Int) < (n : Int) := by omega
      have q0 : (0 : Int) ≤ (i : Int) := by omega
      cases he : (X i == U i && Y i == V i) with
      | true =>
        have hE : ∀ w, (Op.equalIn 10000 32 (.agg #[.int .i64 (X i), .int .i64 (Y i)]) (.agg #[.int .i64 (U i), .int .i64 (V i)])).run Try.prog w = .ok true w := fun w => by rw [eqPtQ, he]
        have HE := Lib.hid he
        clear he
        go_wp2_with fail
        go_region
        all_goals
          go_wp2_with fail
          go_roundw
          case rel => exact ⟨i + 1, by omega, by go_num, by first | assumption | (repeat (first | (with_reducible exact Below.refl _ _) | (with_reducible refine Ext.drewN ?_ _) | (with_reducible refine Below.drew ?_) | (with_reducible refine Ext.alloc ?_ _) | (with_reducible refine Ext.setCell ?_ (by simp; try omega) _) | (with_reducible refine Ext.trans ?_ (by assumption)) | (with_reducible assumption) | exact Below.refl _ _)), Lib.hid fun k hk => by
            by_cases e : k = i
            · rw [e]; exact HE.out
            · exact HA.out k (by omega)⟩
          case measure => simp [intOf]; omega
      | false =>
        have hE : ∀ w, (Op.equalIn 10000 32 (.agg #[.int .i64 (X i), .int .i64 (Y i)]) (.agg #[.int .i64 (U i), .int .i64 (V i)])).run Try.prog w = .ok false w := fun w => by rw [eqPtQ, he]
        have HE := Lib.hid he
        clear he
        go_wp2_with fail
        go_region
        all_goals
          go_wp2_with fail
          go_ret
          exact ⟨ret_bool (eqlB_f hlt HE.out).symm, by first | assumption | (repeat (first | (with_reducible exact Below.refl _ _) | (with_reducible refine Ext.drewN ?_ _) | (with_reducible refine Below.drew ?_) | (with_reducible refine Ext.alloc ?_ _) | (with_reducible refine Ext.setCell ?_ (by simp; try omega) _) | (with_reducible refine Ext.trans ?_ (by assumption)) | (with_reducible assumption) | exact Below.refl _ _))⟩
    · have q1 : ¬ (i : Int) < (n : Int) := by omega
      obtain rfl : i = n := by omega
      go_wp2_with fail
      go_ret
      exact ⟨ret_bool (eqlB_t HA.out).symm, hW⟩

theorem sameB_f {X Y U V : Nat → Int} {n m : Nat} (h : ¬ (polyB X Y n = true ∧ polyB U V m = true ∧ n = m)) : sameB X Y U V n m = false := by
  unfold sameB
  cases h1 : polyB X Y n <;> cases h2 : polyB U V m <;> simp
  intro e
  exact absurd ⟨h1, h2, e⟩ h
theorem sameB_t {X Y U V : Nat → Int} {n : Nat} (h1 : polyB X Y n = true) (h2 : polyB U V n = true) : sameB X Y U V n n = (List.range n).any (rotB X Y U V n) := by
  unfold sameB; simp [h1, h2]
theorem any_t {n k : Nat} {r : Nat → Bool} (hk : k < n) (h : r k = true) : (List.range n).any r = true := List.any_eq_true.2 ⟨k, List.mem_range.2 hk, h⟩
theorem any_f {n : Nat} {r : Nat → Bool} (h : ∀ k, k < n → r k = false) : (List.range n).any r = false := by
  rw [List.any_eq_false]
  intro k hk
  rw [h k (List.mem_range.1 hk)]
  simp
theorem rot_eql (X Y U V : Nat → Int) (n k : Nat) : eqlB (fun i => X ((k + i) % n)) (fun i => Y ((k + i) % n)) U V n = rotB X Y U V n k := by
  unfold eqlB rotB
  congr 1
  funext i
  show (X ((k + i) % n) == U i && Y ((k + i) % n) == V i) = _
  rw [Nat.add_comm k i]
theorem PtsIs.slice {B : Nat} {w : World} {h n : Nat} {X Y : Nat → Int} (hP : PtsIs B w (some ⟨h, 0, none⟩) (2 * n) (fun i => X (i % n)) (fun i => Y (i % n))) {k : Nat} (hk : k < n) : PtsIs B w (some ⟨h, k * 2, none⟩) n (fun i => X ((k + i) % n)) (fun i => Y ((k + i) % n)) := fun i hi => by
  obtain ⟨hb, c0, c1⟩ := hP.at rfl (show k + i < 2 * n by omega)
  refine ⟨h, k * 2, rfl, hb, ?_, ?_⟩
  · rw [show k * 2 + i * 2 = 0 + (k + i) * 2 by omega]; exact c0
  · rw [show k * 2 + i * 2 + 1 = 0 + (k + i) * 2 + 1 by omega]; exact c1

set_option maxRecDepth 100000 in
set_option maxHeartbeats 8000000 in
theorem implSamePolygon_any (a b : Option Addr) (n m c1 c2 : Nat) (X Y U V : Nat → Int) (w : World) (hn : n ≤ 1048576) (hm : m ≤ 1048576) (hP : PtsIs w.heap.size w a n X Y) (hQ : PtsIs w.heap.size w b m U V) :
    Calls Try.prog 14 #[.slice a n c1, .slice b m c2] w fun e w' => e = .returned (.bool (sameB X Y U V n m)) ∧ Below w.heap.size w w' := by
  have hV1 := fun w' hP' => implIsValidPolygon_any a n c1 X Y w' hn hP'
  have hV2 := fun w' hQ' => implIsValidPolygon_any b m c2 U V w' hm hQ'
  by_cases hall : polyB X Y n = true ∧ polyB U V m = true ∧ n = m
  case neg =>
    rw [sameB_f hall]
    cases h1 : polyB X Y n with
    | false =>
      rw [h1] at hV1
      go_enter Try.func14, Try.ntmps14
      go_wp2_with (first | (go_at_call_of 9 (Value.slice a n c1); refine (hV1 _ (hP.ext (by (repeat (first | (with_reducible exact Below.refl _ _) | (with_reducible refine Ext.drewN ?_ _) | (with_reducible refine Below.drew ?_) | (with_reducible refine Ext.alloc ?_ _) | (with_reducible refine Ext.setCell ?_ (by simp; try omega) _) | (with_reducible refine Ext.trans ?_ (by assumption)) | (with_reducible assumption) | exact Below.refl _ _))))).mono ?_; rintro e w1 ⟨rfl, bw1⟩))
      go_ret
      exact ⟨rfl, by (repeat (first | (with_reducible exact Below.refl _ _) | (with_reducible refine Ext.drewN ?_ _) | (with_reducible refine Below.drew ?_) | (with_reducible refine Ext.alloc ?_ _) | (with_reducible refine Ext.setCell ?_ (by simp; try omega) _) | (with_reducible refine Ext.trans ?_ (by assumption)) | (with_reducible assumption) | exact Below.refl _ _))⟩
    | true =>
      cases h2 : polyB U V m with
      | false =>
        rw [h1] at hV1
        rw [h2] at hV2
        go_enter Try.func14, Try.ntmps14
        go_wp2_with (first | (have hx := bw1; clear hx; go_at_call 9; refine (hV2 _ (hQ.ext (by (repeat (first | (with_reducible exact Below.refl _ _) | (with_reducible refine Ext.drewN ?_ _) | (with_reducible refine Below.drew ?_) | (with_reducible refine Ext.alloc ?_ _) | (with_reducible refine Ext.setCell ?_ (by simp; try omega) _) | (with_reducible refine Ext.trans ?_ (by assumption)) | (with_reducible assumption) | exact Below.refl _ _))))).mono ?_; rintro e w2 ⟨rfl, bw2⟩) | (go_at_call 9; refine (hV1 _ (hP.ext (by (repeat (first | (with_reducible exact Below.refl _ _) | (with_reducible refine Ext.drewN ?_ _) | (with_reducible refine Below.drew ?_) | (with_reducible refine Ext.alloc ?_ _) | (with_reducible refine Ext.setCell ?_ (by simp; try omega) _) | (with_reducible refine Ext.trans ?_ (by assumption)) | (with_reducible assumption) | exact Below.refl _ _))))).mono ?_; rintro e w1 ⟨rfl, bw1⟩))
        go_ret
        exact ⟨rfl, by (repeat (first | (with_reducible exact Below.refl _ _) | (with_reducible refine Ext.drewN ?_ _) | (with_reducible refine Below.drew ?_) | (with_reducible refine Ext.alloc ?_ _) | (with_reducible refine Ext.setCell ?_ (by simp; try omega) _) | (with_reducible refine Ext.trans ?_ (by assumption)) | (with_reducible assumption) | exact Below.refl _ _))⟩
      | true =>
        have hnm : ¬ n = m := fun e => hall ⟨h1, h2, e⟩
        have hnm' : ¬ (n : Int) = (m : Int) := by omega
        rw [h1] at hV1
        rw [h2] at hV2
        go_enter Try.func14, Try.ntmps14
        go_wp2_with (first | (have hx := bw1; clear hx; go_at_call 9; refine (hV2 _ (hQ.ext (by (repeat (first | (with_reducible exact Below.refl _ _) | (with_reducible refine Ext.drewN ?_ _) | (with_reducible refine Below.drew ?_) | (with_reducible refine Ext.alloc ?_ _) | (with_reducible refine Ext.setCell ?_ (by simp; try omega) _) | (with_reducible refine Ext.trans ?_ (by assumption)) | (with_reducible assumption) | exact Below.refl _ _))))).mono ?_; rintro e w2 ⟨rfl, bw2⟩) | (go_at_call 9; refine (hV1 _ (hP.ext (by (repeat (first | (with_reducible exact Below.refl _ _) | (with_reducible refine Ext.drewN ?_ _) | (with_reducible refine Below.drew ?_) | (with_reducible refine Ext.alloc ?_ _) | (with_reducible refine Ext.setCell ?_ (by simp; try omega) _) | (with_reducible refine Ext.trans ?_ (by assumption)) | (with_reducible assumption) | exact Below.refl _ _))))).mono ?_; rintro e w1 ⟨rfl, bw1⟩))
        go_ret
        exact ⟨rfl, by (repeat (first | (with_reducible exact Below.refl _ _) | (with_reducible refine Ext.drewN ?_ _) | (with_reducible refine Below.drew ?_) | (with_reducible refine Ext.alloc ?_ _) | (with_reducible refine Ext.setCell ?_ (by simp; try omega) _) | (with_reducible refine Ext.trans ?_ (by assumption)) | (with_reducible assumption) | exact Below.refl _ _))⟩
  obtain ⟨h1, h2, rfl⟩ := hall
  rw [sameB_t h1 h2]
  obtain ⟨p1, p2, _, _⟩ := polyB_t h1
  rw [h1] at hV1
  rw [h2] at hV2
  clear h1 h2
  obtain ⟨b1, o1, rfl⟩ := hP.base (by omega)
  go_enter Try.func14, Try.ntmps14
  go_wp2_with (first | (have hx := bw1; clear hx; go_at_call 9; refine (hV2 _ (hQ.ext (by (repeat (first | (with_reducible exact Below.refl _ _) | (with_reducible refine Ext.drewN ?_ _) | (with_reducible refine Below.drew ?_) | (with_reducible refine Ext.alloc ?_ _) | (with_reducible refine Ext.setCell ?_ (by simp; try omega) _) | (with_reducible refine Ext.trans ?_ (by assumption)) | (with_reducible assumption) | exact Below.refl _ _))))).mono ?_; rintro e w2 ⟨rfl, bw2⟩) | (go_at_call 9; refine (hV1 _ (hP.ext (by (repeat (first | (with_reducible exact Below.refl _ _) | (with_reducible refine Ext.drewN ?_ _) | (with_reducible refine Below.drew ?_) | (with_reducible refine Ext.alloc ?_ _) | (with_reducible refine Ext.setCell ?_ (by simp; try omega) _) | (with_reducible refine Ext.trans ?_ (by assumption)) | (with_reducible assumption) | exact Below.refl _ _))))).mono ?_; rintro e w1 ⟨rfl, bw1⟩))
  have bwA : Below w.heap.size w (w2.alloc (.cells #[.slice (some ⟨b1, o1, none⟩) n c1, .slice (some ⟨b1, o1, none⟩) n c1] 25)) := by (repeat (first | (with_reducible exact Below.refl _ _) | (with_reducible refine Ext.drewN ?_ _) | (with_reducible refine Below.drew ?_) | (with_reducible refine Ext.alloc ?_ _) | (with_reducible refine Ext.setCell ?_ (by simp; try omega) _) | (with_reducible refine Ext.trans ?_ (by assumption)) | (with_reducible assumption) | exact Below.refl _ _))
  refine (twice_any w2.heap.size b1 o1 n c1 X Y _ (by omega) p2 (hP.ext bwA) (by simp [go_sem]) (by simp [go_sem])).mono ?_
  rintro e w3 ⟨⟨g3, c3, rfl, hc3, P3⟩, bw3⟩
  have B3 := Ext.trans bwA bw3
  have H3 := Lib.hid P3
  have HQ := Lib.hid (hQ.ext B3)
  have HB3 := Lib.hid B3
  clear bwA bw1 bw2 bw3 P3 B3 hP hQ hV1 hV2
  go_wp2_with fail
  go_loopw [28] (fun s wr => ∃ i : Nat, i ≤ n ∧ s = .int .i64 i ∧ Below w3.heap.size w3 wr ∧ Hid (∀ k, k < i → rotB X Y U V n k = false)) (fun s _ => n - (intOf s).toNat)
  case atStart => exact ⟨0, by omega, rfl, Below.refl _ _, Lib.hid fun k hk => absurd hk (by omega)⟩
  case round =>
    obtain ⟨i, hi, rfl, hW, HA⟩ := hrel
    by_cases hlt : i < n
    · have q1 : (i : Int) < (n : Int) := by omega
      have q0 : (0 : Int) ≤ (i : Int) := by omega
      obtain ⟨t, ht⟩ : ∃ t, t = i + n := ⟨_, rfl⟩
      have e1 : IntKind.i64.wrap ((i : Int) + (n : Int)) = (t : Int) := by rw [IntKind.wrap_i64]; omega
      have r0 : (i : Int) ≤ (t : Int) := by omega
      have r0' : i ≤ t := by omega
      have r1 : (t : Int) ≤ (c3 : Int) := by omega
      have r1' : t ≤ c3 := by omega
      have r3 : (0 : Int) ≤ (t : Int) := by omega
      have r2 : t - i = n := by omega
      have r2' : (t : Int) - (i : Int) = (n : Int) := by omega
      clear ht
      have hE := fun cc w' hP' hQ' => equalP_any (some ⟨g3, i * 2, none⟩) b n cc c2 (fun k => X ((i + k) % n)) (fun k => Y ((i + k) % n)) U V w' hn hP' hQ'
      rw [rot_eql] at hE
      have HE := Lib.hid (show rotB X Y U V n i = rotB X Y U V n i from rfl)
      have HS := Lib.hid (PtsIs.slice ((H3.out.ext hW)) hlt)
      cases hr : rotB X Y U V n i with
      | true =>
        rw [hr] at hE
        have HR := Lib.hid hr
        clear hr
        go_wp2_with fail
        refine (hE _ _ HS.out (HQ.out.ext hW)).mono ?_
        rintro e w5 ⟨rfl, bw5⟩
        go_wp2_with fail
        go_ret
        exact ⟨ret_bool (any_t hlt HR.out).symm, Ext.trans (Ext.trans HB3.out hW) bw5⟩
      | false =>
        rw [hr] at hE
        have HR := Lib.hid hr
        clear hr
        go_wp2_with fail
        refine (hE _ _ HS.out (HQ.out.ext hW)).mono ?_
        rintro e w5 ⟨rfl, bw5⟩
        go_wp2_with fail
        go_roundw
        case rel => exact ⟨i + 1, by omega, by go_num, Ext.trans hW bw5, Lib.hid fun k hk => by
          by_cases e : k = i
          · rw [e]; exact HR.out
          · exact HA.out k (by omega)⟩
        case measure => simp [intOf]; omega
    · have q1 : ¬ (i : Int) < (n : Int) := by omega
      obtain rfl : i = n := by omega
      go_wp2_with fail
      go_ret
      exact ⟨ret_bool (any_f HA.out).symm, Ext.trans HB3.out hW⟩
end Go.Proofs.Ytfbalpkjcfdakaa
