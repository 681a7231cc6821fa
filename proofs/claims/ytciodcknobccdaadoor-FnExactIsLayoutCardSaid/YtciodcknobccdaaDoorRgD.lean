/- The model's comparisons: of lists of numbers, of lists of rectangles; validity of a list of rectangles. -/
import Derived.Test.YtciodcknobccdaaDoorRgC
namespace Go.Proofs.YtciodcknobccdaaDoor
open Go.RowKit
set_option linter.unusedVariables false
set_option linter.unusedSimpArgs false
attribute [local go_sem ↓] Go.wp_at_zero Go.wp_at_succ

theorem IntsIs.at {B : Nat} {w : World} {h : Nat} {l : List Int} (hA : IntsIs B w h l) {k : Nat} (hk : k < l.length) : w.cell? ⟨h, k, none⟩ = some (.int .i64 (l.getD k 0)) :=
  hA.2.2 k _ (by rw [List.getD, List.getElem?_eq_getElem hk]; rfl)

theorem ext_getD {l l' : List Int} (h : l.length = l'.length) (hg : ∀ j, j < l.length → l.getD j 0 = l'.getD j 0) : l = l' := by
  refine List.ext_getElem h fun i h1 h2 => ?_
  have := hg i h1
  rw [List.getD, List.getD, List.getElem?_eq_getElem h1, List.getElem?_eq_getElem h2] at this
  exact this

set_option maxHeartbeats 8000000 in
theorem l03Equal_any (B B' g h c c' : Nat) (l l' : List Int) (w : World) (hA : IntsIs B w g l) (hB : IntsIs B' w h l') (hl : l.length ≤ 1000) (hl' : l'.length ≤ 1000) :
    Calls Tryd.prog 129 #[.slice (some ⟨g, 0, none⟩) l.length c, .slice (some ⟨h, 0, none⟩) l'.length c'] w fun e w' => e = .returned (.bool (decide (l = l'))) ∧ Below w.heap.size w w' := by
  have HA := Lib.hid hA
  have HB := Lib.hid hB
  clear hA hB
  obtain ⟨n, hn⟩ : ∃ n, n = l.length := ⟨_, rfl⟩
  obtain ⟨n', hn'⟩ : ∃ n', n' = l'.length := ⟨_, rfl⟩
  have HN := Lib.hid hn
  have HN' := Lib.hid hn'
  rw [← hn, ← hn']
  rw [← hn] at hl
  rw [← hn'] at hl'
  clear hn hn'
  by_cases hne : n = n'
  · subst hne
    have e0 : ((n : Int) != (n : Int)) = false := by simp
    go_enter Tryd.func129, Tryd.ntmps129
    go_wp2_with fail
    go_loopw [5] (fun s wr => ∃ k : Nat, k ≤ n ∧ s = .int .i64 k ∧ Below w.heap.size w wr ∧ ∀ j, j < k → l.getD j 0 = l'.getD j 0) (fun s _ => n - (intOf s).toNat)
    case atStart => exact ⟨0, by omega, rfl, Below.refl _ _, fun j hj => by omega⟩
    case round =>
      obtain ⟨k, hk, rfl, hW, heq⟩ := hrel
      have HQ := Lib.hid heq
      clear heq
      by_cases hlt : k < n
      · have q1 : (k : Int) < (n : Int) := by omega
        have q0 : (0 : Int) ≤ (k : Int) := by omega
        have a1 := keepC hW (HA.out.at (k := k) (by have := HN.out; omega))
        have a2 := keepC hW (HB.out.at (k := k) (by have := HN'.out; omega))
        obtain ⟨u, hu⟩ : ∃ u, u = l.getD k 0 := ⟨_, rfl⟩
        obtain ⟨v, hv⟩ : ∃ v, v = l'.getD k 0 := ⟨_, rfl⟩
        rw [← hu] at a1
        rw [← hv] at a2
        have HU := Lib.hid hu
        have HV := Lib.hid hv
        clear hu hv
        by_cases huv : u = v
        · have e1 : (u != v) = false := by simp [huv]
          have HUV := Lib.hid huv
          clear huv
          go_wp2_with fail
          go_region_held3 (fun w' => Below wr.heap.size wr w' ∧ w'.cell? ⟨g, k, none⟩ = some (.int .i64 u) ∧ w'.cell? ⟨h, k, none⟩ = some (.int .i64 v))
            (first | ((try dsimp only); go_split_ands; (repeat' (with_reducible refine And.intro ?_ ?_)) <;> first | ((repeat (with_reducible refine keepS ?_ (by simp; try omega) _)); (first | (with_reducible assumption) | (with_reducible exact keepC (by assumption) (by assumption)) | (with_reducible exact keepA (by assumption) _) | (with_reducible exact keepR (by assumption) (by omega) _))) | ((try simp only [World.size_alloc, World.size_setCell, World.size_drew]); omega) | (refine Mats.below hM ?_ hM.size; (repeat (first | (with_reducible exact Below.refl _ _) | (with_reducible refine Ext.drewN ?_ _) | (with_reducible refine Below.drew ?_) | (with_reducible refine Ext.alloc ?_ _) | (with_reducible refine Ext.setCell ?_ (by simp; try omega) _) | (with_reducible refine Ext.trans ?_ (by assumption)) | (with_reducible assumption) | exact Below.refl _ _)); done) | ((repeat (first | (with_reducible exact Below.refl _ _) | (with_reducible refine Ext.drewN ?_ _) | (with_reducible refine Below.drew ?_) | (with_reducible refine Ext.alloc ?_ _) | (with_reducible refine Ext.setCell ?_ (by simp; try omega) _) | (with_reducible refine Ext.trans ?_ (by assumption)) | (with_reducible assumption) | exact Below.refl _ _)); done) | (go_keep; done)))
            (fail)
          go_wp2_with fail
          go_roundw
          case rel => exact ⟨k + 1, by omega, by go_num, by (repeat (first | (with_reducible exact Below.refl _ _) | (with_reducible refine Ext.drewN ?_ _) | (with_reducible refine Below.drew ?_) | (with_reducible refine Ext.alloc ?_ _) | (with_reducible refine Ext.setCell ?_ (by simp; try omega) _) | (with_reducible refine Ext.trans ?_ (by assumption)) | (with_reducible assumption) | exact Below.refl _ _)), fun j hj => by
            by_cases e : j = k
            · subst e; rw [← HU.out, ← HV.out]; exact HUV.out
            · exact HQ.out j (by omega)⟩
          case measure => simp [intOf]; omega
        · have e1 : (u != v) = true := by simp [huv]
          have hres : decide (l = l') = false := decide_eq_false (fun e => huv (by rw [HU.out, HV.out, e]))
          clear huv
          go_wp2_with fail
          go_region_held3 (fun w' => Below wr.heap.size wr w' ∧ w'.cell? ⟨g, k, none⟩ = some (.int .i64 u) ∧ w'.cell? ⟨h, k, none⟩ = some (.int .i64 v))
            (first | ((try dsimp only); go_split_ands; (repeat' (with_reducible refine And.intro ?_ ?_)) <;> first | ((repeat (with_reducible refine keepS ?_ (by simp; try omega) _)); (first | (with_reducible assumption) | (with_reducible exact keepC (by assumption) (by assumption)) | (with_reducible exact keepA (by assumption) _) | (with_reducible exact keepR (by assumption) (by omega) _))) | ((try simp only [World.size_alloc, World.size_setCell, World.size_drew]); omega) | (refine Mats.below hM ?_ hM.size; (repeat (first | (with_reducible exact Below.refl _ _) | (with_reducible refine Ext.drewN ?_ _) | (with_reducible refine Below.drew ?_) | (with_reducible refine Ext.alloc ?_ _) | (with_reducible refine Ext.setCell ?_ (by simp; try omega) _) | (with_reducible refine Ext.trans ?_ (by assumption)) | (with_reducible assumption) | exact Below.refl _ _)); done) | ((repeat (first | (with_reducible exact Below.refl _ _) | (with_reducible refine Ext.drewN ?_ _) | (with_reducible refine Below.drew ?_) | (with_reducible refine Ext.alloc ?_ _) | (with_reducible refine Ext.setCell ?_ (by simp; try omega) _) | (with_reducible refine Ext.trans ?_ (by assumption)) | (with_reducible assumption) | exact Below.refl _ _)); done) | (go_keep; done)))
            (fail)
          go_wp2_with fail
          go_ret
          exact ⟨ret_bool hres.symm, by (repeat (first | (with_reducible exact Below.refl _ _) | (with_reducible refine Ext.drewN ?_ _) | (with_reducible refine Below.drew ?_) | (with_reducible refine Ext.alloc ?_ _) | (with_reducible refine Ext.setCell ?_ (by simp; try omega) _) | (with_reducible refine Ext.trans ?_ (by assumption)) | (with_reducible assumption) | exact Below.refl _ _))⟩
      · have q1 : ¬ (k : Int) < (n : Int) := by omega
        obtain rfl : k = n := by omega
        have hres : decide (l = l') = true := decide_eq_true (ext_getD (by rw [← HN.out, ← HN'.out]) (fun j hj => HQ.out j (by have := HN.out; omega)))
        go_wp2_with fail
        go_ret
        first | exact ⟨ret_bool hres.symm, hW⟩ | exact ⟨rfl, hW⟩
  · have e0 : ((n : Int) != (n' : Int)) = true := by simp; omega
    have hres : decide (l = l') = false := decide_eq_false (fun e => hne (by rw [HN.out, HN'.out, e]))
    go_enter Tryd.func129, Tryd.ntmps129
    go_wp2_with fail
    go_ret
    exact ⟨ret_bool hres.symm, Below.refl _ _⟩

theorem allV_succ (P Q R S : Nat → Int) (n : Nat) : allV P Q R S (n + 1) = (allV P Q R S n && rvB (P n) (Q n) (R n) (S n)) := by
  unfold allV; rw [List.range_succ, List.all_append]; simp
/-- Is a list short enough, and are all of its rectangles valid? -/
def okV (P Q R S : Nat → Int) (n : Nat) : Bool := decide (n ≤ 3200) && allV P Q R S n

set_option maxHeartbeats 8000000 in
theorem l03Valid_any (m : Option Addr) (len cap : Nat) (P Q R S : Nat → Int) (w : World) (hlen : len ≤ 1048576) (hR : RectsIs w.heap.size w m len P Q R S) :
    Calls Tryd.prog 101 #[.slice m len cap] w fun e w' => e = .returned (.bool (okV P Q R S len)) ∧ Below w.heap.size w w' := by
  by_cases hbig : 3200 < len
  · have q0 : (3200 : Int) < (len : Int) := by omega
    have hres : okV P Q R S len = false := by unfold okV; rw [decide_eq_false (by omega)]; rfl
    go_enter Tryd.func101, Tryd.ntmps101
    go_wp2_with fail
    go_ret
    exact ⟨ret_bool hres.symm, Below.refl _ _⟩
  · have q0 : ¬ (3200 : Int) < (len : Int) := by omega
    have hok : okV P Q R S len = allV P Q R S len := by unfold okV; rw [decide_eq_true (by omega)]; rfl
    have HK := Lib.hid hok
    have HR := Lib.hid hR
    clear hok hR
    go_enter Tryd.func101, Tryd.ntmps101
    go_wp2_with fail
    go_loopw [3] (fun s wr => ∃ i : Nat, i ≤ len ∧ s = .int .i64 i ∧ Below w.heap.size w wr ∧ allV P Q R S i = true) (fun s _ => len - (intOf s).toNat)
    case atStart => exact ⟨0, by omega, rfl, Below.refl _ _, rfl⟩
    case round =>
      obtain ⟨i, hi, rfl, hW, hall⟩ := hrel
      by_cases hlt : i < len
      · obtain ⟨b1, o1, rfl, hb1, c0, c1, c2, c3⟩ := HR.out i hlt
        have q1 : (i : Int) < (len : Int) := by omega
        have q2 : (0 : Int) ≤ (i : Int) := by omega
        have d0 := keepC hW c0
        have d1 := keepC hW c1
        have d2 := keepC hW c2
        have d3 := keepC hW c3
        clear c0 c1 c2 c3
        cases hv : rvB (P i) (Q i) (R i) (S i) with
        | false =>
          have hres : okV P Q R S len = false := by rw [HK.out]; exact allV_f hlt hv
          go_wp2_with (go_at_call 127; refine (specValidRect_any _ _ _ _ _).mono ?_; rintro e w1 ⟨rfl, bw1⟩; rw [hv])
          go_ret
          exact ⟨ret_bool hres.symm, by (repeat (first | (with_reducible exact Below.refl _ _) | (with_reducible refine Ext.drewN ?_ _) | (with_reducible refine Below.drew ?_) | (with_reducible refine Ext.alloc ?_ _) | (with_reducible refine Ext.setCell ?_ (by simp; try omega) _) | (with_reducible refine Ext.trans ?_ (by assumption)) | (with_reducible assumption) | exact Below.refl _ _))⟩
        | true =>
          have hnext : allV P Q R S (i + 1) = true := by rw [allV_succ, hall, hv]; rfl
          have HX := Lib.hid hnext
          clear hnext
          go_wp2_with (go_at_call 127; refine (specValidRect_any _ _ _ _ _).mono ?_; rintro e w1 ⟨rfl, bw1⟩; rw [hv])
          go_roundw
          case rel => exact ⟨i + 1, by omega, by go_num, by (repeat (first | (with_reducible exact Below.refl _ _) | (with_reducible refine Ext.drewN ?_ _) | (with_reducible refine Below.drew ?_) | (with_reducible refine Ext.alloc ?_ _) | (with_reducible refine Ext.setCell ?_ (by simp; try omega) _) | (with_reducible refine Ext.trans ?_ (by assumption)) | (with_reducible assumption) | exact Below.refl _ _)), HX.out⟩
          case measure => simp [intOf]; omega
      · have q1 : ¬ (i : Int) < (len : Int) := by omega
        obtain rfl : i = len := by omega
        have hres : okV P Q R S i = true := by rw [HK.out]; exact hall
        go_wp2_with fail
        go_ret
        first | exact ⟨ret_bool hres.symm, hW⟩ | exact ⟨rfl, hW⟩
end Go.Proofs.YtciodcknobccdaaDoor
