/- The model's and the program's UnionAll. Conditions: the lists' cells are in memory; the variables that regions read hold their tables. -/
import Derived.Test.YtpbijohdnocleaaDoorSbH
import Derived.Test.YtpbijohdnocleaaDoorSbA
import Derived.Test.YtpbijohdnocleaaDoorRiY
namespace Go.Proofs.YtpbijohdnocleaaDoor
open Go.RowKit Go.Shelf
set_option linter.unusedVariables false
set_option linter.unusedSimpArgs false
attribute [local go_sem ↓] Go.wp_at_zero Go.wp_at_succ

/-- What UnionAll answers. -/
def uaB (n : Nat → Nat) (P Q R S : Nat → Nat → Int) (k : Nat) : Bool := decide (k ≤ 64) && okA n P Q R S k
def uaL (n : Nat → Nat) (P Q R S : Nat → Nat → Int) (k : Nat) : List R4 := if uaB n P Q R S k = true then canonL (mgA 14 (fun _ => false) n P Q R S k) else []
theorem uaL_len (n : Nat → Nat) (P Q R S : Nat → Nat → Int) (k : Nat) : (uaL n P Q R S k).length ≤ 3280 := by
  unfold uaL; split
  · exact canonL_len _
  · simp
theorem uaL_no {n : Nat → Nat} {P Q R S : Nat → Nat → Int} {k : Nat} (h : uaB n P Q R S k = false) : uaL n P Q R S k = [] := by unfold uaL; rw [if_neg (by simp [h])]
theorem uaL_yes {n : Nat → Nat} {P Q R S : Nat → Nat → Int} {k : Nat} (h : uaB n P Q R S k = true) : uaL n P Q R S k = canonL (mgA 14 (fun _ => false) n P Q R S k) := by unfold uaL; rw [if_pos h]
theorem none_ok (P Q R S : Nat → Int) : okR P Q R S 0 = true := by
  rw [okR_iff]
  refine ⟨fun i hi => by omega, ?_⟩
  have e : covF P Q R S 0 = fun _ => false := rfl
  rw [e, canonL_none]
  rfl
theorem mr_ua (P0 Q0 R0 S0 : Nat → Int) (n : Nat → Nat) (P Q R S : Nat → Nat → Int) (k : Nat) (hk : k ≤ 64) : mrL 14 P0 Q0 R0 S0 0 n P Q R S k = uaL n P Q R S k := by
  unfold mrL uaL uaB
  have e : covF P0 Q0 R0 S0 0 = fun _ => false := rfl
  rw [none_ok, decide_eq_true hk, e]
set_option maxRecDepth 100000 in
set_option maxHeartbeats 1000000 in
theorem implUnionAll_any (hM : MergeC 0 14) (mm : Option Addr) (k kc : Nat) (a : Nat → Option Addr) (n c : Nat → Nat) (P Q R S : Nat → Nat → Int) (w : World) (hk : k ≤ 1048576) (hD : EnvW w) (hL : ListsIs w.heap.size w mm k a n c P Q R S) :
    Calls Tryd.prog 59 #[.slice mm k kc] w fun e w' => LOwn w.heap.size (uaL n P Q R S k) e w' ∧ Below w.heap.size w w' := by
  by_cases h : k ≤ 64
  · have q1 : ¬ (k : Int) > 64 := by omega
    have q2 : ¬ (64 : Int) < (k : Int) := by omega
    rw [← mr_ua (fun _ => 0) (fun _ => 0) (fun _ => 0) (fun _ => 0) n P Q R S k h]
    go_enter Tryd.func59, Tryd.ntmps59
    go_wp2_with fail
    refine (mergedRegion_any 0 14 hM none 0 0 (fun _ => 0) (fun _ => 0) (fun _ => 0) (fun _ => 0) mm k kc a n c P Q R S w (by omega) (by omega) hk hD RectsIs.zero hL).mono ?_
    rintro e w1 ⟨⟨a1, c1, rfl, ho⟩, bw1⟩
    have HO := Lib.hid ho
    clear ho
    go_wp2_with fail
    go_ret
    exact ⟨⟨a1, c1, rfl, HO.out⟩, bw1⟩
  · have q1 : (k : Int) > 64 := by omega
    have q2 : (64 : Int) < (k : Int) := by omega
    rw [uaL_no (by unfold uaB; rw [decide_eq_false h]; rfl)]
    go_enter Tryd.func59, Tryd.ntmps59
    go_wp2_with fail
    go_ret
    exact ⟨⟨none, 0, rfl, .inl rfl⟩, Below.refl _ _⟩

set_option maxRecDepth 100000 in
set_option maxHeartbeats 4000000 in
theorem specUnionAll_any (mm : Option Addr) (k kc : Nat) (a : Nat → Option Addr) (n c : Nat → Nat) (P Q R S : Nat → Nat → Int) (w : World) (hk : k ≤ 1048576) (hL : ListsIs w.heap.size w mm k a n c P Q R S) :
    Calls Tryd.prog 57 #[.slice mm k kc] w fun e w' => LRes (uaL n P Q R S k) e w' ∧ Below w.heap.size w w' := by
  by_cases h : k ≤ 64
  · have q1 : ¬ (k : Int) > 64 := by omega
    have q2 : ¬ (64 : Int) < (k : Int) := by omega
    have HL := Lib.hid hL
    clear hL
    obtain ⟨i0, hi, hz0, hz1, hz2⟩ := info_parts infoB
    go_enter Tryd.func57, Tryd.ntmps57
    go_wp2_with (at_make; refine wpList_make_full _ rfl _ _ 74 rfl w.heap.size 4 i0 (.bool false) 1 Tryd.underlying74 hi hz0 hz1 .i64 .i64 6400 6400 6400 rfl rfl rfl rfl (by rw [hz2]; omega) (by unfold maxLen; omega) (Nat.le_refl _) ?_; intro w1 own1 grow1)
    have hB1 : Below w.heap.size w w1 := (Below.refl _ _).grown grow1 (Nat.le_refl _) (fun k hk => by cases hk)
    have HF1 := Lib.hid (bits_made own1)
    clear own1 grow1 hi hz0 hz1 hz2
    go_wp2_with fail
    go_loopw [3, 4] (fun s3 s4 wr => ∃ i g : Nat, i ≤ k ∧ s3 = .slice (some ⟨g, 0, none⟩) 6400 6400 ∧ s4 = .int .i64 (i : Nat) ∧ Below w.heap.size w wr ∧ Hid (BitsIs wr g (mgA 14 (fun _ => false) n P Q R S i)) ∧ Hid (okA n P Q R S i = true)) (fun _ s4 _ => k - (intOf s4).toNat)
    case atStart => exact ⟨0, w.heap.size, by omega, rfl, rfl, hB1, HF1, Lib.hid rfl⟩
    case round =>
      obtain ⟨i, g, hik, rfl, rfl, hW, HG, HA⟩ := hrel
      by_cases hlt : i < k
      · obtain ⟨⟨b, off, rfl, hb, hc⟩, hn1, hc1, hR1⟩ := (HL.out.below hW) i hlt
        have q3 : ((i : Nat) : Int) < (k : Int) := by omega
        have q0 : (0 : Int) ≤ ((i : Nat) : Int) := by omega
        have HR1 := Lib.hid (hR1.mono hW.size)
        clear hR1
        cases hok1 : okR (P i) (Q i) (R i) (S i) (n i) with
        | false =>
          have HN := Lib.hid (uaL_no (show uaB n P Q R S k = false by unfold uaB; rw [okA_f hok1 k hlt, Bool.and_false]))
          go_wp2_with (first | (go_at_call 66; refine (l03Ok_any (a i) (n i) (c i) _ _ _ _ _ hn1 HR1.out).mono ?_; rintro e w3 ⟨rfl, bw3⟩; rw [hok1]))
          go_ret
          exact ⟨⟨none, 0, by rw [HN.out]; rfl, by rw [HN.out]; exact RectsL.nil _ _ _⟩, Ext.trans hW bw3⟩
        | true =>
          have HA1 : Hid (okA n P Q R S (i + 1) = true) := Lib.hid (by rw [okA, HA.out, hok1]; rfl)
          have HV1 := Lib.hid (okR_all hok1)
          go_wp2_with fail
          refine (l03Ok_any (a i) (n i) (c i) _ _ _ _ _ hn1 HR1.out).mono ?_
          rintro e w3 ⟨rfl, bw3⟩
          rw [hok1]
          have hc3 := keepC bw3 hc
          go_wp2_with fail
          refine (l03Bits_any (a i) (n i) (c i) _ _ _ _ _ hn1 (HR1.out.ext bw3) HV1.out).mono ?_
          rintro e w4 ⟨⟨h4, rfl, hh0, hh⟩, bw4⟩
          have HH := Lib.hid hh
          have HG4 := Lib.hid (HG.out.below (Ext.trans bw3 bw4))
          clear hh HG
          go_wp2_with fail
          refine (l04Combine_any g h4 6400 6400 _ _ 14 (by decide) _ HG4.out HH.out).mono ?_
          rintro e w5 ⟨⟨j, rfl, hj0, hj⟩, bw5⟩
          have HJ : Hid (BitsIs w5 j (mgA 14 (fun _ => false) n P Q R S (i + 1))) := Lib.hid hj
          clear hj HH HG4
          have B5 := Ext.trans hW (Ext.trans (Ext.trans bw3 bw4) bw5)
          go_wp2_with fail
          go_roundw
          case rel => exact ⟨i + 1, j, by omega, rfl, by go_num, B5, HJ, HA1⟩
          case measure => simp [intOf]; omega
      · have q3 : ¬ ((i : Nat) : Int) < (k : Int) := by omega
        obtain rfl : i = k := by omega
        have HY := Lib.hid (uaL_yes (show uaB n P Q R S i = true by unfold uaB; rw [HA.out, decide_eq_true h]; rfl))
        go_wp2_with fail
        refine (l03Canon_any g 6400 _ _ HG.out).mono ?_
        rintro e w9 ⟨⟨h9, c9, rfl, hI⟩, bw9⟩
        rw [← HY.out] at hI ⊢
        have HI := Lib.hid hI.rects
        clear hI
        go_wp2_with fail
        go_ret
        exact ⟨⟨_, c9, rfl, HI.out⟩, Ext.trans hW bw9⟩
  · have q1 : (k : Int) > 64 := by omega
    have q2 : (64 : Int) < (k : Int) := by omega
    rw [uaL_no (by unfold uaB; rw [decide_eq_false h]; rfl)]
    go_enter Tryd.func57, Tryd.ntmps57
    go_wp2_with fail
    go_ret
    exact ⟨⟨none, 0, rfl, RectsL.nil _ _ _⟩, Below.refl _ _⟩
end Go.Proofs.YtpbijohdnocleaaDoor
