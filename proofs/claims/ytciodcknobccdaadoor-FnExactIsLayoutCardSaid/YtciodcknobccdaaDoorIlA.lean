/- IsLayout, by the model and by the program. Conditions: the lists lie in memory; the variables that regions read hold their tables. -/
import Derived.Test.YtciodcknobccdaaDoorUaB
import Derived.Test.YtciodcknobccdaaDoorRiP
import Derived.Test.YtciodcknobccdaaDoorRgG
namespace Go.Proofs.YtciodcknobccdaaDoor
open Go.RowKit
set_option linter.unusedVariables false
set_option linter.unusedSimpArgs false
attribute [local go_sem ↓] Go.wp_at_zero Go.wp_at_succ

/-- Are the first i all right? -/
def loB (ok : Nat → Bool) (i : Nat) : Bool := (List.range i).all ok
theorem loB_zero (ok : Nat → Bool) : loB ok 0 = true := rfl
theorem loB_succ (ok : Nat → Bool) (i : Nat) : loB ok (i + 1) = (loB ok i && ok i) := by unfold loB; rw [List.range_succ, List.all_append]; simp
theorem loB_f {ok : Nat → Bool} {i n : Nat} (hi : i < n) (h : ok i = false) : loB ok n = false := by
  unfold loB
  rw [List.all_eq_false]
  exact ⟨i, List.mem_range.2 hi, by simp [h]⟩
def laB (n : Nat → Nat) (P Q R S : Nat → Nat → Int) (k : Nat) : Bool := decide (k = 8) && loB (fun i => okR (P i) (Q i) (R i) (S i) (n i)) k
set_option maxRecDepth 100000 in
set_option maxHeartbeats 4000000 in
theorem specIsLayout_any (m : Option Addr) (k kc : Nat) (a : Nat → Option Addr) (n c : Nat → Nat) (P Q R S : Nat → Nat → Int) (w : World) (hk : k ≤ 1048576) (hL : ListsIs w.heap.size w m k a n c P Q R S) :
    Calls Tryd.prog 38 #[.slice m k kc] w fun e w' => e = .returned (.bool (laB n P Q R S k)) ∧ Below w.heap.size w w' := by
  have HL := Lib.hid hL
  clear hL
  by_cases h8 : k = 8
  · have HN : Hid (laB n P Q R S k = loB (fun i => okR (P i) (Q i) (R i) (S i) (n i)) k) := Lib.hid (by unfold laB; rw [decide_eq_true h8]; rfl)
    subst h8
    go_enter Tryd.func38, Tryd.ntmps38
    go_wp2_with fail
    go_loopw [3] (fun s2 wr => ∃ i : Nat, i ≤ 8 ∧ s2 = .int .i64 (i : Nat) ∧ Hid (Below w.heap.size w wr) ∧ Hid (loB (fun i => okR (P i) (Q i) (R i) (S i) (n i)) i = true)) (fun s2 _ => 8 - (intOf s2).toNat)
    case atStart => exact ⟨0, by omega, rfl, Lib.hid (Below.refl _ _), Lib.hid (loB_zero _)⟩
    case round =>
      obtain ⟨i, hi, rfl, HW, HA⟩ := hrel
      by_cases hlt : i < 8
      · obtain ⟨⟨b, off, rfl, hb, c0⟩, hn, hc, hR⟩ := HL.out i hlt
        have c1 := (HW.out.cell (p := ⟨b, off + i, none⟩) hb).trans c0
        have HR := Lib.hid ((hR.below HW.out).mono HW.out.size)
        have q1 : (i : Int) < 8 := by omega
        have q0 : (0 : Int) ≤ (i : Int) := by omega
        clear c0 hR
        cases hv : okR (P i) (Q i) (R i) (S i) (n i) with
        | true =>
          have HV := Lib.hid hv
          go_wp2_with (first | (go_at_call 71; refine (l03Ok_any (a i) (n i) (c i) (P i) (Q i) (R i) (S i) _ hn HR.out).mono ?_; rintro e u1 ⟨rfl, bu1⟩; rw [hv]))
          go_roundw
          case rel => exact ⟨i + 1, by omega, by go_num, Lib.hid (Ext.trans HW.out bu1), Lib.hid (by rw [loB_succ, HA.out, HV.out]; rfl)⟩
          case measure => simp [intOf]; omega
        | false =>
          have HV := Lib.hid (loB_f (ok := fun i => okR (P i) (Q i) (R i) (S i) (n i)) hlt hv)
          go_wp2_with (first | (go_at_call 71; refine (l03Ok_any (a i) (n i) (c i) (P i) (Q i) (R i) (S i) _ hn HR.out).mono ?_; rintro e u1 ⟨rfl, bu1⟩; rw [hv]))
          go_ret
          exact ⟨by rw [HN.out, HV.out]; rfl, Ext.trans HW.out bu1⟩
      · have q1 : ¬ (i : Int) < 8 := by omega
        have HV : Hid (loB (fun i => okR (P i) (Q i) (R i) (S i) (n i)) 8 = true) := Lib.hid (by rw [show 8 = i by omega]; exact HA.out)
        go_wp2_with fail
        go_ret
        exact ⟨by rw [HN.out, HV.out]; rfl, HW.out⟩
  · have HN : Hid (laB n P Q R S k = false) := Lib.hid (by unfold laB; rw [decide_eq_false h8]; rfl)
    have q8 : ((k : Int) != 8) = true := by simp; omega
    have q9 : ¬ (k : Int) = 8 := by omega
    go_enter Tryd.func38, Tryd.ntmps38
    go_wp2_with fail
    go_ret
    exact ⟨by rw [HN.out]; rfl, Below.refl _ _⟩
set_option maxRecDepth 100000 in
set_option maxHeartbeats 4000000 in
theorem isLayout1_any (m : Option Addr) (n cap : Nat) (P Q R S : Nat → Int) (w : World) (hn : n ≤ 1048576) (hcap : n ≤ cap) (hD : EnvW w) (hR : RectsIs w.heap.size w m n P Q R S) :
    Calls Tryd.prog 74 #[.slice m n cap] w fun e w' => e = .returned (.bool (!okR P Q R S n)) ∧ Below w.heap.size w w' := by
  go_enter Tryd.func74, Tryd.ntmps74
  go_wp2_with (first | (go_at_call 75; refine (isRegion_any m n cap P Q R S _ hn hcap hD hR).mono ?_; rintro e u1 ⟨rfl, bu1⟩))
  go_ret
  exact ⟨rfl, bu1⟩
set_option maxRecDepth 100000 in
set_option maxHeartbeats 4000000 in
theorem indexLay_any (m : Option Addr) (k kc : Nat) (a : Nat → Option Addr) (n c : Nat → Nat) (P Q R S : Nat → Nat → Int) (w : World) (hk : k ≤ 1048576) (hD : EnvW w) (hL : ListsIs w.heap.size w m k a n c P Q R S) :
    Calls Tryd.prog 107 #[.slice m k kc, .func (.func 74) #[] #[]] w fun e w' => (∃ r : Int, e = .returned (.int .i64 r) ∧ decide (0 ≤ r) = !loB (fun i => okR (P i) (Q i) (R i) (S i) (n i)) k) ∧ Below w.heap.size w w' := by
  have HL := Lib.hid hL
  have HD := Lib.hid hD
  clear hL hD
  go_enter Tryd.func107, Tryd.ntmps107
  go_wp2_with fail
  go_loopw [8] (fun s8 wr => ∃ t : Nat, t ≤ k ∧ s8 = .int .i64 (t : Nat) ∧ Hid (loB (fun i => okR (P i) (Q i) (R i) (S i) (n i)) t = true) ∧ Below w.heap.size w wr) (fun s8 _ => k - (intOf s8).toNat)
  case atStart => exact ⟨0, by omega, rfl, Lib.hid (loB_zero _), Below.refl _ _⟩
  case round =>
    obtain ⟨t, ht, rfl, HA, hW⟩ := hrel
    by_cases hlt : t < k
    · obtain ⟨⟨b, off, rfl, hb, c0⟩, hn, hc, hR⟩ := HL.out t hlt
      have c1 := (hW.cell (p := ⟨b, off + t, none⟩) hb).trans c0
      have HR := Lib.hid ((hR.below hW).mono hW.size)
      have HDr := Lib.hid (HD.out.ext hW)
      have q1 : (t : Int) < (k : Int) := by omega
      have q0 : (0 : Int) ≤ (t : Int) := by omega
      clear c0 hR
      cases hv : okR (P t) (Q t) (R t) (S t) (n t) with
      | false =>
        have HV := Lib.hid (loB_f (ok := fun i => okR (P i) (Q i) (R i) (S i) (n i)) hlt hv)
        go_wp2_with (first | (go_at_call 74; refine (isLayout1_any (a t) (n t) (c t) (P t) (Q t) (R t) (S t) _ hn hc HDr.out HR.out).mono ?_; rintro e v0 ⟨rfl, bv0⟩; rw [hv]))
        refine bodyPost_ret (v := .int .i64 (t : Nat)) (by simp [*, results, Tryd.results107, go_sem]) rfl ⟨⟨_, rfl, by rw [HV.out]; simp⟩, ?_⟩
        exact Ext.trans hW bv0
      | true =>
        have HV := Lib.hid hv
        go_wp2_with (first | (go_at_call 74; refine (isLayout1_any (a t) (n t) (c t) (P t) (Q t) (R t) (S t) _ hn hc HDr.out HR.out).mono ?_; rintro e v0 ⟨rfl, bv0⟩; rw [hv]))
        go_roundw
        case rel => exact ⟨t + 1, by omega, by go_num, Lib.hid (by rw [loB_succ, HA.out, HV.out]; rfl), Ext.trans hW bv0⟩
        case measure => simp [intOf]; omega
    · have q1 : ¬ (t : Int) < (k : Int) := by omega
      have HN : Hid (loB (fun i => okR (P i) (Q i) (R i) (S i) (n i)) k = true) := Lib.hid (by rw [show k = t by omega]; exact HA.out)
      go_wp2_with fail
      refine bodyPost_ret (v := .int .i64 (-1)) (by simp [*, results, Tryd.results107, go_sem]) rfl ⟨⟨_, rfl, by rw [HN.out]; decide⟩, ?_⟩
      exact hW
set_option maxRecDepth 100000 in
set_option maxHeartbeats 4000000 in
theorem containsLay_any (m : Option Addr) (k kc : Nat) (a : Nat → Option Addr) (n c : Nat → Nat) (P Q R S : Nat → Nat → Int) (w : World) (hk : k ≤ 1048576) (hD : EnvW w) (hL : ListsIs w.heap.size w m k a n c P Q R S) :
    Calls Tryd.prog 73 #[.slice m k kc, .func (.func 74) #[] #[]] w fun e w' => e = .returned (.bool (!loB (fun i => okR (P i) (Q i) (R i) (S i) (n i)) k)) ∧ Below w.heap.size w w' := by
  go_enter Tryd.func73, Tryd.ntmps73
  go_wp2_with fail
  refine (indexLay_any m k kc a n c P Q R S _ hk hD hL).mono ?_
  rintro e w1 ⟨⟨r, rfl, hr⟩, bw1⟩
  have HR1 := Lib.hid hr
  clear hr
  go_wp2_with fail
  refine bodyPost_ret (v := .bool (decide (0 ≤ r))) (by simp [*, results, Tryd.results73, go_sem]) rfl ⟨by rw [HR1.out], ?_⟩
  exact bw1
set_option maxRecDepth 100000 in
set_option maxHeartbeats 4000000 in
theorem implIsLayout_any (m : Option Addr) (k kc : Nat) (a : Nat → Option Addr) (n c : Nat → Nat) (P Q R S : Nat → Nat → Int) (w : World) (hk : k ≤ 1048576) (hD : EnvW w) (hL : ListsIs w.heap.size w m k a n c P Q R S) :
    Calls Tryd.prog 40 #[.slice m k kc] w fun e w' => e = .returned (.bool (laB n P Q R S k)) ∧ Below w.heap.size w w' := by
  have hmf : ∀ (fn : Fn) (first cap : Array Value) (w : World), (Instr.makeFunc fn first cap).run Tryd.prog w = .ok (.func fn first cap) w := fun _ _ _ _ => rfl
  by_cases h8 : k = 8
  · have HN : Hid (laB n P Q R S k = loB (fun i => okR (P i) (Q i) (R i) (S i) (n i)) k) := Lib.hid (by unfold laB; rw [decide_eq_true h8]; rfl)
    subst h8
    cases hv : loB (fun i => okR (P i) (Q i) (R i) (S i) (n i)) 8 with
    | true =>
      go_enter Tryd.func40, Tryd.ntmps40
      go_wp2_with (first | (go_at_call 73; refine (containsLay_any m 8 kc a n c P Q R S _ hk hD hL).mono ?_; rintro e u1 ⟨rfl, bu1⟩; rw [hv]))
      go_ret
      exact ⟨by rw [HN.out, hv]; rfl, bu1⟩
    | false =>
      go_enter Tryd.func40, Tryd.ntmps40
      go_wp2_with (first | (go_at_call 73; refine (containsLay_any m 8 kc a n c P Q R S _ hk hD hL).mono ?_; rintro e u1 ⟨rfl, bu1⟩; rw [hv]))
      go_ret
      exact ⟨by rw [HN.out, hv]; rfl, bu1⟩
  · have HN : Hid (laB n P Q R S k = false) := Lib.hid (by unfold laB; rw [decide_eq_false h8]; rfl)
    have q8 : ((k : Int) == 8) = false := by simp; omega
    have q9 : ¬ (k : Int) = 8 := by omega
    go_enter Tryd.func40, Tryd.ntmps40
    go_wp2_with fail
    go_ret
    exact ⟨by rw [HN.out]; rfl, Below.refl _ _⟩
end Go.Proofs.YtciodcknobccdaaDoor
