/- ReachableCells by the model. Conditions: the library lies in memory. -/
import Derived.Test.YtciodcknobccdaaDoorLcU
import Derived.Test.YtciodcknobccdaaDoorLcN
namespace Go.Proofs.YtciodcknobccdaaDoor
open Go.RowKit
set_option linter.unusedVariables false
set_option linter.unusedSimpArgs false
attribute [local go_sem ↓] Go.wp_at_zero Go.wp_at_succ

/-- The cells that are reached. -/
def rcV (L : List Cel) (k : Int) : List Int := if hasC L k = true then rcU L k.toNat L.length else []
theorem rcV_no {L : List Cel} {k : Int} (h : hasC L k = false) : rcV L k = [] := by unfold rcV; rw [if_neg (by simp [h])]
theorem rcV_yes {L : List Cel} {k : Int} (h : hasC L k = true) : rcV L k = rcU L k.toNat L.length := by unfold rcV; rw [if_pos h]
theorem rcU_t {L : List Cel} {k i : Nat} (h : reB L k i = true) : rcU L k (i + 1) = rcU L k i ++ [(i : Int)] := by rw [rcU, if_pos h]
theorem rcU_f {L : List Cel} {k i : Nat} (h : reB L k i = false) : rcU L k (i + 1) = rcU L k i := by rw [rcU, if_neg (by simp [h])]; simp
theorem rcU_len (L : List Cel) (k : Nat) : ∀ i, (rcU L k i).length ≤ i := by
  intro i
  induction i with
  | zero => simp [rcU]
  | succ i ih =>
    cases h : reB L k i
    · rw [rcU_f h]; omega
    · rw [rcU_t h, List.length_append]; simp; omega
theorem rcV_len (L : List Cel) (k : Int) : (rcV L k).length ≤ L.length := by
  cases h : hasC L k
  · rw [rcV_no h]; simp
  · rw [rcV_yes h]; exact rcU_len L _ _
set_option maxRecDepth 100000 in
set_option maxHeartbeats 8000000 in
theorem specReachableCells_any (a : Option Addr) (L : List Cel) (cap : Nat) (k : Int) (w : World) (hs : szCs L ≤ 1048576) (hL : CelsAt w.heap.size w a L) :
    Calls Tryd.prog 34 #[.agg #[.slice a L.length cap], .int .i64 k] w fun e w' => (∃ v, e = .returned v ∧ IntsOwn w.heap.size w' v (rcV L k)) ∧ Below w.heap.size w w' := by
  have HL := Lib.hid hL
  have HZ := Lib.hid hs
  clear hL hs
  cases hp : hasC L k with
  | false =>
    have HN := Lib.hid (rcV_no hp)
    go_enter Tryd.func34, Tryd.ntmps34
    go_wp2_with (first | (go_at_call 63; refine (l09Has_any a L cap k _ HZ.out (HL.out.ext (by (repeat (first | (with_reducible exact Below.refl _ _) | (with_reducible refine Ext.drewN ?_ _) | (with_reducible refine Below.drew ?_) | (with_reducible refine Ext.alloc ?_ _) | (with_reducible refine Ext.setCell ?_ (by simp; try omega) _) | (with_reducible refine Ext.trans ?_ (by assumption)) | (with_reducible assumption) | exact Below.refl _ _))))).mono ?_; rintro e v1 ⟨rfl, bv1⟩; rw [hp]))
    go_ret
    refine ⟨⟨_, rfl, ?_⟩, by (repeat (first | (with_reducible exact Below.refl _ _) | (with_reducible refine Ext.drewN ?_ _) | (with_reducible refine Below.drew ?_) | (with_reducible refine Ext.alloc ?_ _) | (with_reducible refine Ext.setCell ?_ (by simp; try omega) _) | (with_reducible refine Ext.trans ?_ (by assumption)) | (with_reducible assumption) | exact Below.refl _ _))⟩
    rw [HN.out]
    have hb := bv1.block (w.heap.size + 1) (by simp)
    exact ⟨some ⟨w.heap.size + 1, 0, none⟩, 0, rfl, by simp [rowZ], .inr ⟨w.heap.size + 1, _, _, rfl, by omega, hb.trans (by have := heap_alloc_new (w.alloc (.cells #[.slice a L.length cap] 26)) (.cells #[] 2); simpa using this), by simp, by unfold maxLen; simp, by simp, by simp [rowZ]⟩⟩
  | true =>
    have HN := Lib.hid (rcV_yes hp)
    obtain ⟨hp1, hk0, hk1⟩ := hasC_yes hp
    have HP := Lib.hid hp1
    have hlen := lib_len hp1
    obtain ⟨hl1, hl2⟩ := hlen
    obtain ⟨kn, rfl⟩ : ∃ kn : Nat, k = (kn : Int) := ⟨k.toNat, by omega⟩
    have hkl : kn < L.length := by omega
    clear hp1
    obtain ⟨i0, hi, hz0, hz1, hz2⟩ := info_parts infoI64
    go_enter Tryd.func34, Tryd.ntmps34
    go_wp2_with (first | (go_at_call 63; refine (l09Has_any a L cap (kn : Int) _ HZ.out (HL.out.ext (by (repeat (first | (with_reducible exact Below.refl _ _) | (with_reducible refine Ext.drewN ?_ _) | (with_reducible refine Below.drew ?_) | (with_reducible refine Ext.alloc ?_ _) | (with_reducible refine Ext.setCell ?_ (by simp; try omega) _) | (with_reducible refine Ext.trans ?_ (by assumption)) | (with_reducible assumption) | exact Below.refl _ _))))).mono ?_; rintro e v1 ⟨rfl, bv1⟩; obtain ⟨sv1, zv1, cv1, fv1⟩ := bcell bv1; (try simp only [World.size_alloc, World.size_setCell, World.size_drew] at sv1); rw [hp]))
    obtain ⟨w1, hw1⟩ : ∃ w1, w1 = w.alloc (.cells #[.slice a L.length cap] 26) := ⟨_, rfl⟩
    have s1 : w1.heap.size = w.heap.size + 1 := by rw [hw1]; simp
    have B1 := Lib.hid (show Below w.heap.size w w1 by rw [hw1]; exact (Below.refl _ _).alloc (Nat.le_refl _) _)
    have HW0 := Lib.hid (show Below w1.heap.size w1 v1 by rw [hw1]; (repeat (first | (with_reducible exact Below.refl _ _) | (with_reducible refine Ext.drewN ?_ _) | (with_reducible refine Below.drew ?_) | (with_reducible refine Ext.alloc ?_ _) | (with_reducible refine Ext.setCell ?_ (by simp; try omega) _) | (with_reducible refine Ext.trans ?_ (by assumption)) | (with_reducible assumption) | exact Below.refl _ _)))
    have hb := bv1.block (w.heap.size + 1) (by simp)
    have HO0 : Hid (v1.ownsRow w1.heap.size 2 1 (.slice (some ⟨w.heap.size + 1, 0, none⟩) 0 0) 0 (rowZ (rcU L kn 0))) := Lib.hid ⟨by simp [rowZ, rcU], .inr ⟨w.heap.size + 1, _, _, rfl, by omega, hb.trans (by have := heap_alloc_new (w.alloc (.cells #[.slice a L.length cap] 26)) (.cells #[] 2); simpa using this), by simp, by unfold maxLen; simp, by simp, by simp [rowZ, rcU]⟩⟩
    have HL1 := Lib.hid (HL.out.ext (B1.out.trans (HW0.out.mono (by omega))))
    have HS1 := Lib.hid s1
    clear bv1 sv1 zv1 cv1 fv1 hb hw1 HL s1
    refine (l09Reached_any a L cap kn _ HP.out hkl HL1.out).mono ?_
    rintro e v2 ⟨⟨g, rfl, hgl, hF⟩, bv2⟩
    have hg0 : w.heap.size + 1 < v1.heap.size := (HO0.out.lt _ rfl).2
    have HF := Lib.hid hF
    have HO2 := Lib.hid (own_belowL HO0.out bv2 (Nat.le_refl _))
    have HW2 := Lib.hid (HW0.out.trans (bv2.mono HW0.out.size))
    clear bv2 hF HO0 HW0 HL1
    go_wp2_with fail
    go_loopw [5, 7] (fun s5 s7 wr => ∃ (i n5 c5 : Nat) (a5 : Option Addr), i ≤ L.length ∧ s5 = .slice a5 n5 c5 ∧ s7 = .int .i64 (i : Nat) ∧ n5 ≤ i ∧ Hid (n5 = (rcU L kn i).length) ∧ Hid (Below w1.heap.size w1 wr) ∧ Hid (FlgAt wr g L.length (reB L kn)) ∧ Hid ((Value.slice a5 n5 c5).ownBlock ≠ some g) ∧ Hid (wr.ownsRow w1.heap.size 2 1 (.slice a5 n5 c5) n5 (rowZ (rcU L kn i)))) (fun _ s7 _ => L.length - (intOf s7).toNat)
    case atStart => exact ⟨0, 0, 0, _, by omega, rfl, rfl, by omega, Lib.hid rfl, HW2, HF, Lib.hid (by simp [Value.ownBlock]; omega), HO2⟩
    case round =>
      clear HO2 HW2 HF
      obtain ⟨i, n5, c5, a5, hik, rfl, rfl, hn5, HN5, HW, HF, HNE, HO⟩ := hrel
      by_cases hlt : i < L.length
      · obtain ⟨e0, f0⟩ := HF.out.2 i hlt
        have q1 : ((i : Nat) : Int) < (L.length : Int) := by omega
        have q0 : (0 : Int) ≤ ((i : Nat) : Int) := by omega
        have qw : IntKind.i64.wrap ((i : Nat) : Int) = ((i : Nat) : Int) := by rw [IntKind.wrap_i64]; omega
        cases hv : reB L kn i with
        | false =>
          rw [hv] at e0
          have HR := Lib.hid (rcU_f hv)
          clear hv
          go_wp2_with fail
          go_roundw
          case rel => exact ⟨i + 1, n5, c5, a5, by omega, rfl, by go_num, by omega, Lib.hid (by rw [HR.out]; exact HN5.out), HW, HF, HNE, Lib.hid (by rw [HR.out]; exact HO.out)⟩
          case measure => simp [intOf]; omega
        | true =>
          rw [hv] at e0
          have HR := Lib.hid (rcU_t hv)
          clear hv
          go_wp2_with (at_builtin; refine wpList_append_own_at _ rfl _ _ 29 rfl w1.heap.size 2 i0 (.int .i64 0) 1 8 Tryd.underlying29 hi hz0 hz1 hz2 rfl (by decide) _ _ _ rfl (HO.out.alloc _) ⟨wr.heap.size, 0, none⟩ 1 1 [.int .i64 (i : Int)] rfl rfl ?c1 ?c2 ?c3 ?c4 ?c5 ?_)
          all_goals try
            case c1 =>
              intro j u hj
              match j, hj with
              | 0, hj => simp at hj; subst hj; simp [Addr.add, go_sem]
          case c2 => first | rfl | (intro u hu; simp at hu; subst hu; rfl)
          case c3 => unfold maxLen; omega
          case c4 => omega
          case c5 => (try simp only [World.size_alloc]); have := HW.out.size; omega
          intro v' wn hown' hgrow _ hat
          rw [← rowZ_snoc, ← HR.out] at hown'
          obtain ⟨a9, c9, rfl⟩ := own_slI hown'
          have HO6 := Lib.hid hown'
          have HB6 := Lib.hid (show Below w1.heap.size w1 wn from Below.grown (by have b := HW.out; (repeat (first | (with_reducible exact Below.refl _ _) | (with_reducible refine Ext.drewN ?_ _) | (with_reducible refine Below.drew ?_) | (with_reducible refine Ext.alloc ?_ _) | (with_reducible refine Ext.setCell ?_ (by simp; try omega) _) | (with_reducible refine Ext.trans ?_ (by assumption)) | (with_reducible assumption) | exact Below.refl _ _))) hgrow (by have := HW.out.size; simp; omega) (fun t ht => (HO.out.lt t ht).1))
          have HN6 : Hid (n5 + 1 = (rcU L kn (i + 1)).length) := Lib.hid (by rw [HR.out, List.length_append, ← HN5.out]; rfl)
          have HF6 := Lib.hid (FlgAt.grown (HF.out.below (B := wr.heap.size) (by (repeat (first | (with_reducible exact Below.refl _ _) | (with_reducible refine Ext.drewN ?_ _) | (with_reducible refine Below.drew ?_) | (with_reducible refine Ext.alloc ?_ _) | (with_reducible refine Ext.setCell ?_ (by simp; try omega) _) | (with_reducible refine Ext.trans ?_ (by assumption)) | (with_reducible assumption) | exact Below.refl _ _))) (Nat.le_refl _)) hgrow (fun e => HNE.out e.symm))
          have HNE6 : Hid ((Value.slice a9 (n5 + 1) c9).ownBlock ≠ some g) := Lib.hid (by
            have := HF.out.1
            rcases hat with e | e
            · rw [e]; exact HNE.out
            · rw [e]; intro h; cases h; omega)
          clear hown' hgrow hat
          go_wp2_with fail
          go_roundw
          case rel => exact ⟨i + 1, n5 + 1, c9, a9, by omega, rfl, by go_num, by omega, HN6, HB6, HF6, HNE6, HO6⟩
          case measure => simp [intOf]; omega
      · have q1 : ¬ ((i : Nat) : Int) < (L.length : Int) := by omega
        have HU : Hid (rcV L (kn : Int) = rcU L kn i) := Lib.hid (by rw [HN.out, show L.length = i by omega]; rfl)
        go_wp2_with fail
        go_ret
        refine ⟨⟨_, rfl, ?_⟩, Ext.trans B1.out HW.out⟩
        rw [HU.out]
        have e5 := HN5.out
        refine ⟨a5, c5, by rw [← e5]; rfl, ?_⟩
        rw [← e5]
        exact HO.out.mono (by have := HS1.out; omega)
end Go.Proofs.YtciodcknobccdaaDoor
