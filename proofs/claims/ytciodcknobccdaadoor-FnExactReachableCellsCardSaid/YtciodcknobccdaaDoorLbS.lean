/- The laws' sizes of libraries. Condition: the cells' parts are in memory. -/
import Derived.Test.YtciodcknobccdaaDoorLbM
namespace Go.Proofs.YtciodcknobccdaaDoor
open Go.RowKit
set_option linter.unusedVariables false
set_option linter.unusedSimpArgs false
attribute [local go_sem ↓] Go.wp_at_zero Go.wp_at_succ

/-- What is left of a number when another is taken away, or -1. -/
def leftI (v : Int) (n : Nat) : Int := if (n : Int) ≤ v then v - n else -1
theorem leftI_t {v : Int} {n : Nat} (h : (n : Int) ≤ v) : leftI v n = v - n := by unfold leftI; rw [if_pos h]
theorem leftI_f {v : Int} {n : Nat} (h : ¬ (n : Int) ≤ v) : leftI v n = -1 := by unfold leftI; rw [if_neg h]
theorem szShapeS_any (a : Option Addr) (len cap : Nat) (l : Int) (w : World) (h0 : 0 ≤ l) (h1 : l ≤ 1048576) (hlen : len ≤ maxLen) : Calls Tryd.prog 117 #[.slice a len cap, .int .i64 l] w fun e w' => e = .returned (.int .i64 (leftI l len)) ∧ w = w' := by
  unfold maxLen at hlen
  by_cases h : (len : Int) ≤ l
  · rw [leftI_t h]
    have h2 : ¬ (l - (len : Int) < 0) := by omega
    go_enter Tryd.func117, Tryd.ntmps117
    go_wp2
    go_ret
    exact ⟨rfl, rfl⟩
  · rw [leftI_f h]
    have h2 : l - (len : Int) < 0 := by omega
    go_enter Tryd.func117, Tryd.ntmps117
    go_wp2
    go_ret
    exact ⟨rfl, rfl⟩
theorem szInstanceS_any (a : Option Addr) (len cap : Nat) (l : Int) (w : World) (h0 : 0 ≤ l) (h1 : l ≤ 1048576) (hlen : len ≤ maxLen) : Calls Tryd.prog 119 #[.slice a len cap, .int .i64 l] w fun e w' => e = .returned (.int .i64 (leftI l len)) ∧ w = w' := by
  unfold maxLen at hlen
  by_cases h : (len : Int) ≤ l
  · rw [leftI_t h]
    have h2 : ¬ (l - (len : Int) < 0) := by omega
    go_enter Tryd.func119, Tryd.ntmps119
    go_wp2
    go_ret
    exact ⟨rfl, rfl⟩
  · rw [leftI_f h]
    have h2 : l - (len : Int) < 0 := by omega
    go_enter Tryd.func119, Tryd.ntmps119
    go_wp2
    go_ret
    exact ⟨rfl, rfl⟩
theorem szLabel_any (x y z : Int) (s : ByteArray) (l : Int) (w : World) (h0 : 0 ≤ l) (h1 : l ≤ 1048576) (hlen : s.size ≤ maxLen) : Calls Tryd.prog 137 #[.agg #[.int .i64 x, .int .i64 y, .int .i64 z, .string s], .int .i64 l] w fun e w' => e = .returned (.int .i64 (leftI l s.size)) ∧ Below w.heap.size w w' := by
  unfold maxLen at hlen
  by_cases h : (s.size : Int) ≤ l
  · rw [leftI_t h]
    have h2 : ¬ (l - (s.size : Int) < 0) := by omega
    go_enter Tryd.func137, Tryd.ntmps137
    go_wp2
    go_ret
    exact ⟨rfl, by (repeat (first | (with_reducible exact Below.refl _ _) | (with_reducible refine Ext.drewN ?_ _) | (with_reducible refine Below.drew ?_) | (with_reducible refine Ext.alloc ?_ _) | (with_reducible refine Ext.setCell ?_ (by simp; try omega) _) | (with_reducible refine Ext.trans ?_ (by assumption)) | (with_reducible assumption) | exact Below.refl _ _))⟩
  · rw [leftI_f h]
    have h2 : l - (s.size : Int) < 0 := by omega
    go_enter Tryd.func137, Tryd.ntmps137
    go_wp2
    go_ret
    exact ⟨rfl, by (repeat (first | (with_reducible exact Below.refl _ _) | (with_reducible refine Ext.drewN ?_ _) | (with_reducible refine Below.drew ?_) | (with_reducible refine Ext.alloc ?_ _) | (with_reducible refine Ext.setCell ?_ (by simp; try omega) _) | (with_reducible refine Ext.trans ?_ (by assumption)) | (with_reducible assumption) | exact Below.refl _ _))⟩
set_option maxRecDepth 100000 in
set_option maxHeartbeats 4000000 in
theorem szLabelS_any (m : Option Addr) (l : List Lbl) (cap : Nat) (v : Int) (w : World) (h0 : 0 ≤ v) (h1 : v ≤ 1048576) (hlen : l.length ≤ maxLen) (hs : ∀ (j : Nat) (s : Lbl), l[j]? = some s → s.s.size ≤ maxLen) (hL : LiesAt 4 Lbl.cs w.heap.size w m l) :
    Calls Tryd.prog 118 #[.slice m l.length cap, .int .i64 v] w fun e w' => e = .returned (.int .i64 (leftI v (szLs l))) ∧ Below w.heap.size w w' := by
  unfold maxLen at hlen
  have HL := Lib.hid hL
  have HS := Lib.hid hs
  have HZ := Lib.hid (show szLs l = l.length + suF Lbl.sz l l.length from rfl)
  clear hL hs
  by_cases hk : (l.length : Int) ≤ v
  · have q1 : ¬ (v - (l.length : Int) < 0) := by omega
    go_enter Tryd.func118, Tryd.ntmps118
    go_wp2_with fail
    go_loopw [1, 5] (fun s1 s5 wr => ∃ (i : Nat) (u : Int), i ≤ l.length ∧ s1 = .int .i64 u ∧ s5 = .int .i64 (i : Nat) ∧ 0 ≤ u ∧ Hid (u + l.length + (suF Lbl.sz l i : Nat) = v) ∧ Below w.heap.size w wr) (fun _ s5 _ => l.length - (intOf s5).toNat)
    case atStart => exact ⟨0, _, by omega, rfl, rfl, by omega, Lib.hid (by rw [suF_zero]; omega), by (repeat (first | (with_reducible exact Below.refl _ _) | (with_reducible refine Ext.drewN ?_ _) | (with_reducible refine Below.drew ?_) | (with_reducible refine Ext.alloc ?_ _) | (with_reducible refine Ext.setCell ?_ (by simp; try omega) _) | (with_reducible refine Ext.trans ?_ (by assumption)) | (with_reducible assumption) | exact Below.refl _ _))⟩
    case round =>
      obtain ⟨i, u, hik, rfl, rfl, hv, HV, hW⟩ := hrel
      by_cases hlt : i < l.length
      · obtain ⟨s, hi⟩ := get_some hlt
        obtain ⟨b, off, rfl, hb, c0, c1, c2, c3⟩ := lbl_at (HL.out.below hW) hi
        have hs1 := HS.out i s hi
        have q3 : ((i : Nat) : Int) < (l.length : Int) := by omega
        have q0 : (0 : Int) ≤ ((i : Nat) : Int) := by omega
        have v1 : u ≤ 1048576 := by have := HV.out; omega
        have hsu := suF_succ (f := Lbl.sz) hi
        rw [show Lbl.sz s = s.s.size from rfl] at hsu
        by_cases hf : (s.s.size : Int) ≤ u
        · have HV1 : Hid (u - (s.s.size : Int) + l.length + (suF Lbl.sz l (i + 1) : Nat) = v) := Lib.hid (by have := HV.out; omega)
          have q4 : ¬ u - (s.s.size : Int) < 0 := by omega
          clear hsu
          go_wp2_with (first | (go_at_call 137; refine (szLabel_any _ _ _ _ u _ hv v1 hs1).mono ?_; rintro e w3 ⟨rfl, bw3⟩; rw [leftI_t hf]))
          go_roundw
          case rel => exact ⟨i + 1, u - s.s.size, by omega, rfl, by go_num, by omega, HV1, by (repeat (first | (with_reducible exact Below.refl _ _) | (with_reducible refine Ext.drewN ?_ _) | (with_reducible refine Below.drew ?_) | (with_reducible refine Ext.alloc ?_ _) | (with_reducible refine Ext.setCell ?_ (by simp; try omega) _) | (with_reducible refine Ext.trans ?_ (by assumption)) | (with_reducible assumption) | exact Below.refl _ _))⟩
          case measure => simp [intOf]; omega
        · have hno : (leftI v (szLs l)) = (-1 : Int) := leftI_f (by
            have a1 := HV.out
            have a2 := HZ.out
            have a3 := suF_mono Lbl.sz l (show i + 1 ≤ l.length by omega)
            omega)
          have HNO := Lib.hid hno
          clear hno hsu
          go_wp2_with (first | (go_at_call 137; refine (szLabel_any _ _ _ _ u _ hv v1 hs1).mono ?_; rintro e w3 ⟨rfl, bw3⟩; rw [leftI_f hf]))
          go_ret
          exact ⟨by rw [HNO.out]; rfl, by (repeat (first | (with_reducible exact Below.refl _ _) | (with_reducible refine Ext.drewN ?_ _) | (with_reducible refine Below.drew ?_) | (with_reducible refine Ext.alloc ?_ _) | (with_reducible refine Ext.setCell ?_ (by simp; try omega) _) | (with_reducible refine Ext.trans ?_ (by assumption)) | (with_reducible assumption) | exact Below.refl _ _))⟩
      · have q3 : ¬ ((i : Nat) : Int) < (l.length : Int) := by omega
        have hyes : (leftI v (szLs l)) = u := by
          have a1 := HV.out
          have a2 := HZ.out
          rw [show i = l.length by omega] at a1
          rw [leftI_t (by omega)]
          omega
        have HYES := Lib.hid hyes
        clear hyes
        go_wp2_with fail
        go_ret
        exact ⟨by rw [HYES.out]; rfl, by (repeat (first | (with_reducible exact Below.refl _ _) | (with_reducible refine Ext.drewN ?_ _) | (with_reducible refine Below.drew ?_) | (with_reducible refine Ext.alloc ?_ _) | (with_reducible refine Ext.setCell ?_ (by simp; try omega) _) | (with_reducible refine Ext.trans ?_ (by assumption)) | (with_reducible assumption) | exact Below.refl _ _))⟩
  · have q1 : v - (l.length : Int) < 0 := by omega
    have hno : (leftI v (szLs l)) = (-1 : Int) := leftI_f (by have a2 := HZ.out; omega)
    have HNO := Lib.hid hno
    clear hno
    go_enter Tryd.func118, Tryd.ntmps118
    go_wp2_with fail
    go_ret
    exact ⟨by rw [HNO.out]; rfl, by (repeat (first | (with_reducible exact Below.refl _ _) | (with_reducible refine Ext.drewN ?_ _) | (with_reducible refine Below.drew ?_) | (with_reducible refine Ext.alloc ?_ _) | (with_reducible refine Ext.setCell ?_ (by simp; try omega) _) | (with_reducible refine Ext.trans ?_ (by assumption)) | (with_reducible assumption) | exact Below.refl _ _))⟩
set_option maxRecDepth 100000 in
set_option maxHeartbeats 4000000 in
theorem szCell_any (c : Cel) (a1 a2 a3 : Option Addr) (k1 k2 k3 : Nat) (v : Int) (w : World) (h0 : 0 ≤ v) (h1 : v ≤ 1048576) (hs : c.s.size ≤ maxLen) (ha : c.a.length ≤ maxLen) (hb : c.b.length ≤ maxLen) (hd : c.d.length ≤ maxLen) (hl : ∀ (j : Nat) (s : Lbl), c.b[j]? = some s → s.s.size ≤ maxLen) (hC : CelAt w.heap.size w a1 a2 a3 c) :
    Calls Tryd.prog 92 #[.agg #[.string c.s, .slice a1 c.a.length k1, .slice a2 c.b.length k2, .slice a3 c.d.length k3], .int .i64 v] w fun e w' => e = .returned (.int .i64 (leftI v c.sz)) ∧ Below w.heap.size w w' := by
  have HC := Lib.hid hC
  clear hC
  obtain ⟨z, hz⟩ : ∃ z, z = c.sz := ⟨_, rfl⟩
  have hz2 : z = c.s.size + c.a.length + szLs c.b + c.d.length := hz
  rw [← hz]
  clear hz
  unfold maxLen at hs
  obtain ⟨n, hn⟩ : ∃ n, n = szLs c.b := ⟨_, rfl⟩
  rw [← hn] at hz2
  have HN := Lib.hid hn
  clear hn
  by_cases q1 : (c.s.size : Int) ≤ v
  case neg =>
    have q2 : v - (c.s.size : Int) < 0 := by omega
    rw [leftI_f (show ¬ (z : Int) ≤ v by omega)]
    go_enter Tryd.func92, Tryd.ntmps92
    go_wp2_with fail
    go_ret
    exact ⟨rfl, by (repeat (first | (with_reducible exact Below.refl _ _) | (with_reducible refine Ext.drewN ?_ _) | (with_reducible refine Below.drew ?_) | (with_reducible refine Ext.alloc ?_ _) | (with_reducible refine Ext.setCell ?_ (by simp; try omega) _) | (with_reducible refine Ext.trans ?_ (by assumption)) | (with_reducible assumption) | exact Below.refl _ _))⟩
  have q2 : ¬ v - (c.s.size : Int) < 0 := by omega
  have q3 : 0 ≤ v - (c.s.size : Int) := by omega
  have q4 : v - (c.s.size : Int) ≤ 1048576 := by omega
  by_cases r1 : (c.a.length : Int) ≤ v - (c.s.size : Int)
  case neg =>
    have A0 := Lib.hid (leftI_f r1)
    rw [leftI_f (show ¬ (z : Int) ≤ v by omega)]
    go_enter Tryd.func92, Tryd.ntmps92
    go_wp2_with (first | (go_at_call 117; refine (szShapeS_any _ _ _ _ _ (by omega) (by omega) ha).mono ?_; rintro e w3 ⟨rfl, rfl⟩; rw [A0.out]))
    go_ret
    exact ⟨rfl, by (repeat (first | (with_reducible exact Below.refl _ _) | (with_reducible refine Ext.drewN ?_ _) | (with_reducible refine Below.drew ?_) | (with_reducible refine Ext.alloc ?_ _) | (with_reducible refine Ext.setCell ?_ (by simp; try omega) _) | (with_reducible refine Ext.trans ?_ (by assumption)) | (with_reducible assumption) | exact Below.refl _ _))⟩
  have A1 := Lib.hid (leftI_t r1)
  have r2 : ¬ v - (c.s.size : Int) - (c.a.length : Int) < 0 := by omega
  have r3 : 0 ≤ v - (c.s.size : Int) - (c.a.length : Int) := by omega
  have r4 : v - (c.s.size : Int) - (c.a.length : Int) ≤ 1048576 := by omega
  by_cases s1 : (n : Int) ≤ v - (c.s.size : Int) - (c.a.length : Int)
  case neg =>
    have B0 := Lib.hid (leftI_f s1)
    rw [leftI_f (show ¬ (z : Int) ≤ v by omega)]
    go_enter Tryd.func92, Tryd.ntmps92
    go_wp2_with (first | (go_at_call 117; refine (szShapeS_any _ _ _ _ _ (by omega) (by omega) ha).mono ?_; rintro e w3 ⟨rfl, rfl⟩; rw [A1.out]) | (go_at_call 118; refine (szLabelS_any _ _ _ _ _ (by omega) (by omega) hb hl (HC.out.2.1.ext (by (repeat (first | (with_reducible exact Below.refl _ _) | (with_reducible refine Ext.drewN ?_ _) | (with_reducible refine Below.drew ?_) | (with_reducible refine Ext.alloc ?_ _) | (with_reducible refine Ext.setCell ?_ (by simp; try omega) _) | (with_reducible refine Ext.trans ?_ (by assumption)) | (with_reducible assumption) | exact Below.refl _ _))))).mono ?_; rintro e w3 ⟨rfl, bw3⟩; obtain ⟨sw3, zw3, cw3, fw3⟩ := bcell bw3; (try simp only [World.size_alloc, World.size_setCell, World.size_drew] at sw3); rw [← HN.out, B0.out]))
    go_ret
    exact ⟨rfl, by (repeat (first | (with_reducible exact Below.refl _ _) | (with_reducible refine Ext.drewN ?_ _) | (with_reducible refine Below.drew ?_) | (with_reducible refine Ext.alloc ?_ _) | (with_reducible refine Ext.setCell ?_ (by simp; try omega) _) | (with_reducible refine Ext.trans ?_ (by assumption)) | (with_reducible assumption) | exact Below.refl _ _))⟩
  have B1 := Lib.hid (leftI_t s1)
  have s2 : ¬ v - (c.s.size : Int) - (c.a.length : Int) - (n : Int) < 0 := by omega
  have s3 : 0 ≤ v - (c.s.size : Int) - (c.a.length : Int) - (n : Int) := by omega
  have s4 : v - (c.s.size : Int) - (c.a.length : Int) - (n : Int) ≤ 1048576 := by omega
  by_cases t1 : (c.d.length : Int) ≤ v - (c.s.size : Int) - (c.a.length : Int) - (n : Int)
  case neg =>
    have D0 := Lib.hid (leftI_f t1)
    rw [leftI_f (show ¬ (z : Int) ≤ v by omega)]
    go_enter Tryd.func92, Tryd.ntmps92
    go_wp2_with (first | (go_at_call 117; refine (szShapeS_any _ _ _ _ _ (by omega) (by omega) ha).mono ?_; rintro e w3 ⟨rfl, rfl⟩; rw [A1.out]) | (go_at_call 118; refine (szLabelS_any _ _ _ _ _ (by omega) (by omega) hb hl (HC.out.2.1.ext (by (repeat (first | (with_reducible exact Below.refl _ _) | (with_reducible refine Ext.drewN ?_ _) | (with_reducible refine Below.drew ?_) | (with_reducible refine Ext.alloc ?_ _) | (with_reducible refine Ext.setCell ?_ (by simp; try omega) _) | (with_reducible refine Ext.trans ?_ (by assumption)) | (with_reducible assumption) | exact Below.refl _ _))))).mono ?_; rintro e w3 ⟨rfl, bw3⟩; obtain ⟨sw3, zw3, cw3, fw3⟩ := bcell bw3; (try simp only [World.size_alloc, World.size_setCell, World.size_drew] at sw3); rw [← HN.out, B1.out]) | (go_at_call 119; refine (szInstanceS_any _ _ _ _ _ (by omega) (by omega) hd).mono ?_; rintro e w3 ⟨rfl, rfl⟩; rw [D0.out]))
    go_ret
    exact ⟨rfl, by (repeat (first | (with_reducible exact Below.refl _ _) | (with_reducible refine Ext.drewN ?_ _) | (with_reducible refine Below.drew ?_) | (with_reducible refine Ext.alloc ?_ _) | (with_reducible refine Ext.setCell ?_ (by simp; try omega) _) | (with_reducible refine Ext.trans ?_ (by assumption)) | (with_reducible assumption) | exact Below.refl _ _))⟩
  have D1 := Lib.hid (leftI_t t1)
  have t2 : ¬ v - (c.s.size : Int) - (c.a.length : Int) - (n : Int) - (c.d.length : Int) < 0 := by omega
  rw [leftI_t (show (z : Int) ≤ v by omega), show v - (z : Int) = v - (c.s.size : Int) - (c.a.length : Int) - (n : Int) - (c.d.length : Int) by omega]
  clear hz2
  go_enter Tryd.func92, Tryd.ntmps92
  go_wp2_with (first | (go_at_call 117; refine (szShapeS_any _ _ _ _ _ (by omega) (by omega) ha).mono ?_; rintro e w3 ⟨rfl, rfl⟩; rw [A1.out]) | (go_at_call 118; refine (szLabelS_any _ _ _ _ _ (by omega) (by omega) hb hl (HC.out.2.1.ext (by (repeat (first | (with_reducible exact Below.refl _ _) | (with_reducible refine Ext.drewN ?_ _) | (with_reducible refine Below.drew ?_) | (with_reducible refine Ext.alloc ?_ _) | (with_reducible refine Ext.setCell ?_ (by simp; try omega) _) | (with_reducible refine Ext.trans ?_ (by assumption)) | (with_reducible assumption) | exact Below.refl _ _))))).mono ?_; rintro e w3 ⟨rfl, bw3⟩; obtain ⟨sw3, zw3, cw3, fw3⟩ := bcell bw3; (try simp only [World.size_alloc, World.size_setCell, World.size_drew] at sw3); rw [← HN.out, B1.out]) | (go_at_call 119; refine (szInstanceS_any _ _ _ _ _ (by omega) (by omega) hd).mono ?_; rintro e w3 ⟨rfl, rfl⟩; rw [D1.out]))
  go_ret
  exact ⟨rfl, by (repeat (first | (with_reducible exact Below.refl _ _) | (with_reducible refine Ext.drewN ?_ _) | (with_reducible refine Below.drew ?_) | (with_reducible refine Ext.alloc ?_ _) | (with_reducible refine Ext.setCell ?_ (by simp; try omega) _) | (with_reducible refine Ext.trans ?_ (by assumption)) | (with_reducible assumption) | exact Below.refl _ _))⟩
set_option maxRecDepth 100000 in
set_option maxHeartbeats 4000000 in
theorem szCellS_any (m : Option Addr) (L : List Cel) (cap : Nat) (v : Int) (w : World) (h0 : 0 ≤ v) (h1 : v ≤ 1048576) (hO : LensOK L) (hL : CelsAt w.heap.size w m L) :
    Calls Tryd.prog 62 #[.slice m L.length cap, .int .i64 v] w fun e w' => e = .returned (.int .i64 (leftI v (szCs L))) ∧ Below w.heap.size w w' := by
  have hlen := hO.1
  unfold maxLen at hlen
  have HL := Lib.hid hL
  have HS := Lib.hid hO.2
  have HZ := Lib.hid (show szCs L = L.length + suF Cel.sz L L.length from rfl)
  clear hL hO
  by_cases hk : (L.length : Int) ≤ v
  · have q1 : ¬ (v - (L.length : Int) < 0) := by omega
    go_enter Tryd.func62, Tryd.ntmps62
    go_wp2_with fail
    go_loopw [1, 5] (fun s1 s5 wr => ∃ (i : Nat) (u : Int), i ≤ L.length ∧ s1 = .int .i64 u ∧ s5 = .int .i64 (i : Nat) ∧ 0 ≤ u ∧ Hid (u + L.length + (suF Cel.sz L i : Nat) = v) ∧ Below w.heap.size w wr) (fun _ s5 _ => L.length - (intOf s5).toNat)
    case atStart => exact ⟨0, _, by omega, rfl, rfl, by omega, Lib.hid (by rw [suF_zero]; omega), by (repeat (first | (with_reducible exact Below.refl _ _) | (with_reducible refine Ext.drewN ?_ _) | (with_reducible refine Below.drew ?_) | (with_reducible refine Ext.alloc ?_ _) | (with_reducible refine Ext.setCell ?_ (by simp; try omega) _) | (with_reducible refine Ext.trans ?_ (by assumption)) | (with_reducible assumption) | exact Below.refl _ _))⟩
    case round =>
      obtain ⟨i, u, hik, rfl, rfl, hv, HV, hW⟩ := hrel
      by_cases hlt : i < L.length
      · obtain ⟨c, hi⟩ := get_some hlt
        obtain ⟨b, off, a1, a2, a3, k1, k2, k3, rfl, hb, c0, c1, c2, c3, hC⟩ := (HL.out.below hW) i c hi
        have HC := Lib.hid (hC.mono hW.size)
        clear hC
        obtain ⟨hs1, hs2, hs3, hs4, hs5⟩ := HS.out i c hi
        have q3 : ((i : Nat) : Int) < (L.length : Int) := by omega
        have q0 : (0 : Int) ≤ ((i : Nat) : Int) := by omega
        have v1 : u ≤ 1048576 := by have := HV.out; omega
        have HSU := Lib.hid (suF_succ (f := Cel.sz) hi)
        by_cases hf : (c.sz : Int) ≤ u
        · have HV1 : Hid (u - (c.sz : Int) + L.length + (suF Cel.sz L (i + 1) : Nat) = v) := Lib.hid (by have := HV.out; have := HSU.out; omega)
          have q4 : ¬ u - (c.sz : Int) < 0 := by omega
          go_wp2_with (first | (go_at_call 92; refine (szCell_any c _ _ _ _ _ _ u _ hv v1 hs1 hs2 hs3 hs4 hs5 HC.out).mono ?_; rintro e w3 ⟨rfl, bw3⟩; rw [leftI_t hf]))
          go_roundw
          case rel => exact ⟨i + 1, u - c.sz, by omega, rfl, by go_num, by omega, HV1, by (repeat (first | (with_reducible exact Below.refl _ _) | (with_reducible refine Ext.drewN ?_ _) | (with_reducible refine Below.drew ?_) | (with_reducible refine Ext.alloc ?_ _) | (with_reducible refine Ext.setCell ?_ (by simp; try omega) _) | (with_reducible refine Ext.trans ?_ (by assumption)) | (with_reducible assumption) | exact Below.refl _ _))⟩
          case measure => simp [intOf]; omega
        · have hno : (leftI v (szCs L)) = (-1 : Int) := leftI_f (by
            have a1 := HV.out
            have a2 := HZ.out
            have a3 := suF_mono Cel.sz L (show i + 1 ≤ L.length by omega)
            have a4 := HSU.out
            omega)
          have HNO := Lib.hid hno
          clear hno
          go_wp2_with (first | (go_at_call 92; refine (szCell_any c _ _ _ _ _ _ u _ hv v1 hs1 hs2 hs3 hs4 hs5 HC.out).mono ?_; rintro e w3 ⟨rfl, bw3⟩; rw [leftI_f hf]))
          go_ret
          exact ⟨by rw [HNO.out]; rfl, by (repeat (first | (with_reducible exact Below.refl _ _) | (with_reducible refine Ext.drewN ?_ _) | (with_reducible refine Below.drew ?_) | (with_reducible refine Ext.alloc ?_ _) | (with_reducible refine Ext.setCell ?_ (by simp; try omega) _) | (with_reducible refine Ext.trans ?_ (by assumption)) | (with_reducible assumption) | exact Below.refl _ _))⟩
      · have q3 : ¬ ((i : Nat) : Int) < (L.length : Int) := by omega
        have hyes : (leftI v (szCs L)) = u := by
          have a1 := HV.out
          have a2 := HZ.out
          rw [show i = L.length by omega] at a1
          rw [leftI_t (by omega)]
          omega
        have HYES := Lib.hid hyes
        clear hyes
        go_wp2_with fail
        go_ret
        exact ⟨by rw [HYES.out]; rfl, by (repeat (first | (with_reducible exact Below.refl _ _) | (with_reducible refine Ext.drewN ?_ _) | (with_reducible refine Below.drew ?_) | (with_reducible refine Ext.alloc ?_ _) | (with_reducible refine Ext.setCell ?_ (by simp; try omega) _) | (with_reducible refine Ext.trans ?_ (by assumption)) | (with_reducible assumption) | exact Below.refl _ _))⟩
  · have q1 : v - (L.length : Int) < 0 := by omega
    have hno : (leftI v (szCs L)) = (-1 : Int) := leftI_f (by have a2 := HZ.out; omega)
    have HNO := Lib.hid hno
    clear hno
    go_enter Tryd.func62, Tryd.ntmps62
    go_wp2_with fail
    go_ret
    exact ⟨by rw [HNO.out]; rfl, by (repeat (first | (with_reducible exact Below.refl _ _) | (with_reducible refine Ext.drewN ?_ _) | (with_reducible refine Below.drew ?_) | (with_reducible refine Ext.alloc ?_ _) | (with_reducible refine Ext.setCell ?_ (by simp; try omega) _) | (with_reducible refine Ext.trans ?_ (by assumption)) | (with_reducible assumption) | exact Below.refl _ _))⟩
set_option maxRecDepth 100000 in
theorem szLibrary_any (m : Option Addr) (L : List Cel) (cap : Nat) (v : Int) (w : World) (h0 : 0 ≤ v) (h1 : v ≤ 1048576) (hO : LensOK L) (hL : CelsAt w.heap.size w m L) :
    Calls Tryd.prog 25 #[.agg #[.slice m L.length cap], .int .i64 v] w fun e w' => e = .returned (.int .i64 (leftI v (szCs L))) ∧ Below w.heap.size w w' := by
  obtain ⟨z, hz⟩ : ∃ z, z = szCs L := ⟨_, rfl⟩
  rw [← hz]
  have HZ := Lib.hid hz
  clear hz
  have HL := Lib.hid hL
  clear hL
  by_cases hf : (z : Int) ≤ v
  · have q4 : ¬ v - (z : Int) < 0 := by omega
    rw [leftI_t hf]
    go_enter Tryd.func25, Tryd.ntmps25
    go_wp2_with (first | (go_at_call 62; refine (szCellS_any _ _ _ v _ h0 h1 hO (HL.out.ext (by (repeat (first | (with_reducible exact Below.refl _ _) | (with_reducible refine Ext.drewN ?_ _) | (with_reducible refine Below.drew ?_) | (with_reducible refine Ext.alloc ?_ _) | (with_reducible refine Ext.setCell ?_ (by simp; try omega) _) | (with_reducible refine Ext.trans ?_ (by assumption)) | (with_reducible assumption) | exact Below.refl _ _))))).mono ?_; rintro e w3 ⟨rfl, bw3⟩; rw [← HZ.out, leftI_t hf]))
    go_ret
    exact ⟨rfl, by (repeat (first | (with_reducible exact Below.refl _ _) | (with_reducible refine Ext.drewN ?_ _) | (with_reducible refine Below.drew ?_) | (with_reducible refine Ext.alloc ?_ _) | (with_reducible refine Ext.setCell ?_ (by simp; try omega) _) | (with_reducible refine Ext.trans ?_ (by assumption)) | (with_reducible assumption) | exact Below.refl _ _))⟩
  · rw [leftI_f hf]
    go_enter Tryd.func25, Tryd.ntmps25
    go_wp2_with (first | (go_at_call 62; refine (szCellS_any _ _ _ v _ h0 h1 hO (HL.out.ext (by (repeat (first | (with_reducible exact Below.refl _ _) | (with_reducible refine Ext.drewN ?_ _) | (with_reducible refine Below.drew ?_) | (with_reducible refine Ext.alloc ?_ _) | (with_reducible refine Ext.setCell ?_ (by simp; try omega) _) | (with_reducible refine Ext.trans ?_ (by assumption)) | (with_reducible assumption) | exact Below.refl _ _))))).mono ?_; rintro e w3 ⟨rfl, bw3⟩; rw [← HZ.out, leftI_f hf]))
    go_ret
    exact ⟨rfl, by (repeat (first | (with_reducible exact Below.refl _ _) | (with_reducible refine Ext.drewN ?_ _) | (with_reducible refine Below.drew ?_) | (with_reducible refine Ext.alloc ?_ _) | (with_reducible refine Ext.setCell ?_ (by simp; try omega) _) | (with_reducible refine Ext.trans ?_ (by assumption)) | (with_reducible assumption) | exact Below.refl _ _))⟩
end Go.Proofs.YtciodcknobccdaaDoor
