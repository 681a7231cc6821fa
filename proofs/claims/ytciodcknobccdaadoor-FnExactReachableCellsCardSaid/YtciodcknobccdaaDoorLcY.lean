/- ReachableCells by the program. Conditions: impl.chip holds its value; the library lies in memory. -/
import Derived.Test.YtciodcknobccdaaDoorLcX
namespace Go.Proofs.YtciodcknobccdaaDoor
open Go.RowKit
set_option linter.unusedVariables false
set_option linter.unusedSimpArgs false
attribute [local go_sem ↓] Go.wp_at_zero Go.wp_at_succ

theorem rcN_len (L : List Cel) (k : Nat) : ∀ n, (rcN L k n).length ≤ n + 1 := by
  intro n
  induction n with
  | zero => simp [rcN]
  | succ n ih => rw [rcN, List.length_append]; split <;> simp <;> omega
theorem rcN_t {L : List Cel} {k n i : Nat} (hi : i = k - 1 - n) (h : reB L k i = true) : rcN L k (n + 1) = rcN L k n ++ [(i : Int)] := by subst hi; rw [rcN, if_pos h]
theorem rcN_f {L : List Cel} {k n i : Nat} (hi : i = k - 1 - n) (h : reB L k i = false) : rcN L k (n + 1) = rcN L k n := by subst hi; rw [rcN, if_neg (by simp [h])]; simp
set_option maxRecDepth 100000 in
set_option maxHeartbeats 8000000 in
theorem implReachableCells_any (a : Option Addr) (L : List Cel) (cap : Nat) (k : Int) (w : World) (hCh : ChipW w) (hs : szCs L ≤ 1048576) (hL : CelsAt w.heap.size w a L) :
    Calls Tryd.prog 15 #[.agg #[.slice a L.length cap], .int .i64 k] w fun e w' => (∃ v, e = .returned v ∧ IntsOwn w.heap.size w' v (rcV L k)) ∧ Below w.heap.size w w' := by
  have HL := Lib.hid hL
  have HCh := Lib.hid hCh
  have HZ := Lib.hid hs
  clear hL hCh hs
  have hmf : ∀ (fn : Fn) (first cap : Array Value) (w : World), (Instr.makeFunc fn first cap).run Tryd.prog w = .ok (.func fn first cap) w := fun _ _ _ _ => rfl
  cases hp : hasC L k with
  | false =>
    have HN := Lib.hid (rcV_no hp)
    go_enter Tryd.func15, Tryd.ntmps15
    go_wp2_with (first | (go_at_call 43; refine (hasCell_any a L cap k _ (HCh.out.ext (by (repeat (first | (with_reducible exact Below.refl _ _) | (with_reducible refine Ext.drewN ?_ _) | (with_reducible refine Below.drew ?_) | (with_reducible refine Ext.alloc ?_ _) | (with_reducible refine Ext.setCell ?_ (by simp; try omega) _) | (with_reducible refine Ext.trans ?_ (by assumption)) | (with_reducible assumption) | exact Below.refl _ _)))) HZ.out (HL.out.ext (by (repeat (first | (with_reducible exact Below.refl _ _) | (with_reducible refine Ext.drewN ?_ _) | (with_reducible refine Below.drew ?_) | (with_reducible refine Ext.alloc ?_ _) | (with_reducible refine Ext.setCell ?_ (by simp; try omega) _) | (with_reducible refine Ext.trans ?_ (by assumption)) | (with_reducible assumption) | exact Below.refl _ _))))).mono ?_; rintro e v1 ⟨rfl, bv1⟩; rw [hp]))
    go_ret
    refine ⟨⟨_, rfl, ?_⟩, by (repeat (first | (with_reducible exact Below.refl _ _) | (with_reducible refine Ext.drewN ?_ _) | (with_reducible refine Below.drew ?_) | (with_reducible refine Ext.alloc ?_ _) | (with_reducible refine Ext.setCell ?_ (by simp; try omega) _) | (with_reducible refine Ext.trans ?_ (by assumption)) | (with_reducible assumption) | exact Below.refl _ _))⟩
    rw [HN.out]
    exact ⟨none, 0, rfl, by simp [rowZ], .inl ⟨rfl, rfl⟩⟩
  | true =>
    have HN := Lib.hid (rcV_yes hp)
    obtain ⟨hp1, hk0, hk1⟩ := hasC_yes hp
    have HP := Lib.hid hp1
    have hlen := lib_len hp1
    obtain ⟨hl1, hl2⟩ := hlen
    obtain ⟨kn, rfl⟩ : ∃ kn : Nat, k = (kn : Int) := ⟨k.toNat, by omega⟩
    have hkl : kn < L.length := by omega
    clear hp1
    obtain ⟨i0, hi, hz0, hz1, hz2⟩ := info_parts infoI64
    go_enter Tryd.func15, Tryd.ntmps15
    go_wp2_with (first | (go_at_call 43; refine (hasCell_any a L cap (kn : Int) _ (HCh.out.ext (by (repeat (first | (with_reducible exact Below.refl _ _) | (with_reducible refine Ext.drewN ?_ _) | (with_reducible refine Below.drew ?_) | (with_reducible refine Ext.alloc ?_ _) | (with_reducible refine Ext.setCell ?_ (by simp; try omega) _) | (with_reducible refine Ext.trans ?_ (by assumption)) | (with_reducible assumption) | exact Below.refl _ _)))) HZ.out (HL.out.ext (by (repeat (first | (with_reducible exact Below.refl _ _) | (with_reducible refine Ext.drewN ?_ _) | (with_reducible refine Below.drew ?_) | (with_reducible refine Ext.alloc ?_ _) | (with_reducible refine Ext.setCell ?_ (by simp; try omega) _) | (with_reducible refine Ext.trans ?_ (by assumption)) | (with_reducible assumption) | exact Below.refl _ _))))).mono ?_; rintro e v1 ⟨rfl, bv1⟩; obtain ⟨sv1, zv1, cv1, fv1⟩ := bcell bv1; (try simp only [World.size_alloc, World.size_setCell, World.size_drew] at sv1); rw [hp]))
    have W1 := Lib.hid (show Below w.heap.size w v1 by (repeat (first | (with_reducible exact Below.refl _ _) | (with_reducible refine Ext.drewN ?_ _) | (with_reducible refine Below.drew ?_) | (with_reducible refine Ext.alloc ?_ _) | (with_reducible refine Ext.setCell ?_ (by simp; try omega) _) | (with_reducible refine Ext.trans ?_ (by assumption)) | (with_reducible assumption) | exact Below.refl _ _)))
    have Y1 := Lib.hid (show v1.cell? ⟨w.heap.size, 0, none⟩ = some (.slice a L.length cap) from keepC bv1 (by simp [go_sem]))
    have lw1 : w.heap.size < v1.heap.size := Nat.lt_of_lt_of_le (by simp) bv1.size
    have HL1 := Lib.hid (HL.out.ext W1.out)
    obtain ⟨w2, hw2⟩ : ∃ w2, w2 = (v1.alloc (.cells #[.int .i64 (kn : Int)] 2)).alloc (.cells #[.int .i64 ((kn : Int) - 1)] 2) := ⟨_, rfl⟩
    have s2 : w2.heap.size = v1.heap.size + 2 := by rw [hw2]; simp
    have c2 : w2.cell? ⟨v1.heap.size + 1, 0, none⟩ = some (.int .i64 ((kn : Int) - 1)) := by rw [hw2]; simp [go_sem]
    have f2 : w2.frozen? ⟨v1.heap.size + 1, 0, none⟩ = false := by rw [hw2]; simp [go_sem]
    have HW2 := Lib.hid (show Below v1.heap.size v1 w2 by rw [hw2]; (repeat (first | (with_reducible exact Below.refl _ _) | (with_reducible refine Ext.drewN ?_ _) | (with_reducible refine Below.drew ?_) | (with_reducible refine Ext.alloc ?_ _) | (with_reducible refine Ext.setCell ?_ (by simp; try omega) _) | (with_reducible refine Ext.trans ?_ (by assumption)) | (with_reducible assumption) | exact Below.refl _ _)))
    have HO2 : Hid (w2.ownsRow v1.heap.size 2 1 (.slice (some ⟨v1.heap.size, 0, none⟩) 1 1) 1 (rowZ (rcN L kn 0))) := Lib.hid ⟨by simp [rowZ, rcN], .inr ⟨v1.heap.size, _, #[.int .i64 (kn : Int)], rfl, by omega, by rw [hw2]; exact (((Below.refl (v1.alloc (.cells #[.int .i64 (kn : Int)] 2)).heap.size (v1.alloc (.cells #[.int .i64 (kn : Int)] 2))).alloc (Nat.le_refl _) (.cells #[.int .i64 ((kn : Int) - 1)] 2)).block v1.heap.size (by simp)).trans (heap_alloc_new v1 _), by simp, by unfold maxLen; simp, by simp, by simp [rowZ, rcN]⟩⟩
    rw [← hw2]
    clear bv1 sv1 zv1 cv1 fv1 HL hw2
    go_loopw [5, 6] (fun s5 s6 wr => ∃ (n n5 c5 gi : Nat) (a5 : Option Addr) (z : Int), n ≤ kn ∧ z = (kn : Int) - 1 - (n : Int) ∧ s5 = .slice a5 n5 c5 ∧ s6 = .pointer (some ⟨gi, 0, none⟩) ∧ wr.cell? ⟨gi, 0, none⟩ = some (.int .i64 z) ∧ wr.frozen? ⟨gi, 0, none⟩ = false ∧ v1.heap.size ≤ gi ∧ gi < wr.heap.size ∧ n5 ≤ n + 1 ∧ Hid (n5 = (rcN L kn n).length) ∧ Hid ((Value.slice a5 n5 c5).ownBlock ≠ some gi) ∧ Hid (Below v1.heap.size v1 wr) ∧ Hid (wr.ownsRow v1.heap.size 2 1 (.slice a5 n5 c5) n5 (rowZ (rcN L kn n)))) (fun _ s6 wr => match s6 with | .pointer (some p) => (match wr.cell? p with | some v => (intOf v + 1).toNat | none => 0) | _ => 0)
    case atStart => exact ⟨0, 1, 1, _, _, _, by omega, rfl, rfl, rfl, by rw [c2]; simp, f2, by omega, by omega, by omega, Lib.hid (by simp [rcN]), Lib.hid (by simp [Value.ownBlock]), HW2, HO2⟩
    case round =>
      clear HO2 HW2 c2 f2 s2
      obtain ⟨n, n5, c5, gi, a5, z, hn, hz, rfl, rfl, c0, f0, hg1, hg2, hn5, HN5, HNE, HW, HO⟩ := hrel
      have hlen5 := rcN_len L kn n
      obtain rfl := HN5.out
      clear HN5
      by_cases hlt : n < kn
      · obtain ⟨i, hiN⟩ : ∃ i : Nat, i = kn - 1 - n := ⟨_, rfl⟩
        obtain rfl : z = (i : Int) := by omega
        have hw : n + i + 1 = kn := by omega
        have HIN := Lib.hid hiN
        clear hiN hz
        have y1 := keepC HW.out Y1.out
        have HL2 := Lib.hid (HL1.out.ext HW.out)
        have hws := HW.out.size
        have HI := Lib.hid (show IntsIs wr.heap.size wr a5 (rcN L kn n) from own_ints HO.out)
        have HX : Hid (∀ (j : Nat) (z : Int), (rcN L kn n)[j]? = some z → 0 ≤ z ∧ z < L.length) := Lib.hid fun j z hz => by
          obtain ⟨u, e, _, h2, _⟩ := (rcN_mem HP.out n (by omega) z).1 (List.mem_of_getElem? hz)
          omega
        have HANY : Hid ((!(rcN L kn n).all (noRe L (i : Int))) = reB L kn i) := Lib.hid (by rw [any_noRe, HIN.out]; exact rcN_next HP.out hlt)
        have HN8 : Hid ((rcN L kn n).length ≤ 1048576) := Lib.hid (by omega)
        have q0 : (0 : Int) ≤ (i : Int) := by omega
        have qw : IntKind.i64.wrap ((i : Int) - 1) = (i : Int) - 1 := by rw [IntKind.wrap_i64]; omega
        cases hv : reB L kn i with
        | false =>
          have HR := Lib.hid (rcN_f HIN.out hv)
          have HV := Lib.hid (HANY.out.trans hv)
          clear hv
          go_wp2_with (first | (go_at_call 47; refine (containsReach_any a a5 L (rcN L kn n) cap c5 (i : Int) w.heap.size gi _ HZ.out HN8.out HX.out HI.out HL2.out y1 c0 (by omega) hg2).mono ?_; rintro e v ⟨rfl, bv⟩; rw [HV.out]; obtain ⟨sv, zv, cv, fv⟩ := bcell bv; (try simp only [World.size_alloc, World.size_setCell, World.size_drew] at sv)))
          have hvs := bv.size
          have HBv := Lib.hid (show Below wr.heap.size wr v by (repeat (first | (with_reducible exact Below.refl _ _) | (with_reducible refine Ext.drewN ?_ _) | (with_reducible refine Below.drew ?_) | (with_reducible refine Ext.alloc ?_ _) | (with_reducible refine Ext.setCell ?_ (by simp; try omega) _) | (with_reducible refine Ext.trans ?_ (by assumption)) | (with_reducible assumption) | exact Below.refl _ _)))
          go_roundw
          case rel => exact ⟨n + 1, _, c5, _, a5, (i : Int) - 1, by omega, by omega, rfl, rfl, by simp [go_sem], by simp [go_sem], by have := HBv.out.size; omega, by simp, by omega, Lib.hid (by rw [HR.out]), Lib.hid (fun e => by have := (HO.out.lt _ e).2; have := HBv.out.size; omega), Lib.hid (by have b := HW.out.trans (HBv.out.mono hws); (repeat (first | (with_reducible exact Below.refl _ _) | (with_reducible refine Ext.drewN ?_ _) | (with_reducible refine Below.drew ?_) | (with_reducible refine Ext.alloc ?_ _) | (with_reducible refine Ext.setCell ?_ (by simp; try omega) _) | (with_reducible refine Ext.trans ?_ (by assumption)) | (with_reducible assumption) | exact Below.refl _ _))), Lib.hid (by rw [HR.out]; exact (own_belowL HO.out HBv.out (Nat.le_refl _)).alloc _)⟩
          case measure => simp [intOf, go_sem, c0] <;> omega
        | true =>
          have HR := Lib.hid (rcN_t HIN.out hv)
          have HV := Lib.hid (HANY.out.trans hv)
          clear hv
          go_wp2_with (first | (go_at_call 47; refine (containsReach_any a a5 L (rcN L kn n) cap c5 (i : Int) w.heap.size gi _ HZ.out HN8.out HX.out HI.out HL2.out y1 c0 (by omega) hg2).mono ?_; rintro e v ⟨rfl, bv⟩; rw [HV.out]; have HBv := Lib.hid (show Below wr.heap.size wr v by (repeat (first | (with_reducible exact Below.refl _ _) | (with_reducible refine Ext.drewN ?_ _) | (with_reducible refine Below.drew ?_) | (with_reducible refine Ext.alloc ?_ _) | (with_reducible refine Ext.setCell ?_ (by simp; try omega) _) | (with_reducible refine Ext.trans ?_ (by assumption)) | (with_reducible assumption) | exact Below.refl _ _))); have cv := keepC HBv.out c0; have HOV := Lib.hid (own_belowL HO.out HBv.out (Nat.le_refl _)); have hvs := HBv.out.size; clear bv) | (at_builtin; refine wpList_append_own_at _ rfl _ _ 29 rfl v1.heap.size 2 i0 (.int .i64 0) 1 8 Tryd.underlying29 hi hz0 hz1 hz2 rfl (by decide) _ _ _ rfl (HOV.out.alloc _) ⟨v.heap.size, 0, none⟩ 1 1 [.int .i64 (i : Int)] rfl rfl ?c1 ?c2 ?c3 ?c4 ?c5 ?_))
          all_goals try
            case c1 =>
              intro j u hj
              match j, hj with
              | 0, hj => simp at hj; subst hj; simp [Addr.add, go_sem]
          case c2 => first | rfl | (intro u hu; simp at hu; subst hu; rfl)
          case c3 => unfold maxLen; omega
          case c4 => omega
          case c5 => (try simp only [World.size_alloc]); omega
          intro v' wn hown' hgrow _ hat
          rw [← rowZ_snoc, ← HR.out] at hown'
          obtain ⟨a9, c9, rfl⟩ := own_slI hown'
          have hNE6 := HNE.out
          have cw : wn.cell? ⟨gi, 0, none⟩ = some (.int .i64 (i : Int)) := (World.cell?_of_block (w := v.alloc (.cells #[.int .i64 (i : Int)] 2)) (hgrow.block gi (by simp; omega) (fun e => hNE6 e.symm))).trans (keepC ((Below.refl v.heap.size v).alloc (Nat.le_refl _) _) cv)
          have HO6 := Lib.hid hown'
          have HB6 := Lib.hid (show Below v1.heap.size v1 wn from Below.grown ((HW.out.trans (HBv.out.mono hws)).alloc (by omega) _) hgrow (by simp; omega) (fun t ht => (HOV.out.lt t ht).1))
          have hsn : v.heap.size < wn.heap.size := Nat.lt_of_lt_of_le (by simp) hgrow.size
          clear hown' hgrow hat
          go_wp2_with fail
          go_roundw
          case rel => exact ⟨n + 1, _, c9, _, a9, (i : Int) - 1, by omega, by omega, by rw [HR.out, List.length_append]; rfl, rfl, by simp [go_sem], by simp [go_sem], by omega, by simp, by rw [HR.out, List.length_append]; simp; omega, Lib.hid rfl, Lib.hid (fun e => by rw [HR.out, List.length_append] at e; have := (HO6.out.lt _ e).2; omega), Lib.hid (by have b := HB6.out; (repeat (first | (with_reducible exact Below.refl _ _) | (with_reducible refine Ext.drewN ?_ _) | (with_reducible refine Below.drew ?_) | (with_reducible refine Ext.alloc ?_ _) | (with_reducible refine Ext.setCell ?_ (by simp; try omega) _) | (with_reducible refine Ext.trans ?_ (by assumption)) | (with_reducible assumption) | exact Below.refl _ _))), Lib.hid (by have h := HO6.out.alloc (.cells #[.int .i64 ((i : Int) - 1)] 2); rw [HR.out, List.length_append]; rw [HR.out] at h; exact h)⟩
          case measure => simp [intOf, go_sem, c0] <;> omega
      · have hnk : n = kn := by omega
        subst hnk
        obtain rfl : z = -1 := by omega
        have hB := rc_rev HP.out hkl
        have HRV : Hid (rcV L (n : Int) = (rcN L n n).reverse) := Lib.hid (by rw [HN.out, hB, Int.toNat_natCast])
        clear hB
        have HOI := HO.out
        rcases HOI.2 with ⟨e, h0⟩ | ⟨g, cap2, cur, e, _⟩
        · have : (rcN L n n).length = 0 := h0
          have hm := (rcN_mem HP.out n (Nat.le_refl n) (n : Int)).2 ⟨n, rfl, by omega, Nat.le_refl n, reB_self HP.out n⟩
          rw [List.length_eq_zero_iff.1 this] at hm
          cases hm
        cases e
        rw [rowZ_rowI] at HOI
        have HOJ := Lib.hid HOI
        clear HOI
        go_wp2_with fail
        refine (reverseI_any v1.heap.size g (rcN L n n).length c5 (fun j => (rcN L n n).getD j 0) _ (by omega) HOJ.out).mono ?_
        rintro e w3 ⟨rfl, hO3, bw3⟩
        rw [rowI_rev] at hO3
        have HO3 := Lib.hid hO3
        have HW3 := Lib.hid (show Below w.heap.size w w3 from W1.out.trans ((HW.out.trans bw3).mono W1.out.size))
        clear hO3 bw3
        go_wp2_with fail
        go_ret
        refine ⟨⟨_, rfl, ?_⟩, HW3.out⟩
        rw [HRV.out]
        refine ⟨some ⟨g, 0, none⟩, c5, by first | (rw [List.length_reverse]; done) | (rw [List.length_reverse]; rfl) | simp, ?_⟩
        rw [List.length_reverse]
        exact HO3.out.mono W1.out.size
end Go.Proofs.YtciodcknobccdaaDoor
