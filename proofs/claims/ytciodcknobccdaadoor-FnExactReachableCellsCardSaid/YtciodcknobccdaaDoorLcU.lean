/- The model's flags of reached cells. Conditions: the library is valid and lies in memory. -/
import Derived.Test.YtciodcknobccdaaDoorLcT
import Derived.Test.YtciodcknobccdaaDoorLbC
namespace Go.Proofs.YtciodcknobccdaaDoor
open Go.RowKit
set_option linter.unusedVariables false
set_option linter.unusedSimpArgs false
attribute [local go_sem ↓] Go.wp_at_zero Go.wp_at_succ

theorem made1L (n j : Nat) (h : j < n) : (madeCells (Value.bool false).cells n).toList[j]? = some (.bool false) := by
  have e : (Value.bool false).cells = #[.bool false] := rfl
  rw [e]
  simp only [madeCells, Array.getElem?_toList, Array.getElem?_map]
  rw [Array.getElem?_eq_getElem (by simpa using h)]
  simp only [Option.map_some, Array.getElem_range]
  simp [Nat.mod_one]
theorem infoBoL : (Tryd.prog.info? 4).map (fun i => (i.zero, i.size, i.bytes)) = some (some (.bool false), 1, 1) := by kernel_rfl
/-- Flags in a block that may be written. -/
def FlgAt (w : World) (g n : Nat) (V : Nat → Bool) : Prop := g < w.heap.size ∧ ∀ j, j < n → w.cell? ⟨g, j, none⟩ = some (.bool (V j)) ∧ w.frozen? ⟨g, j, none⟩ = false
theorem FlgAt.below {w w' : World} {g n B : Nat} {V : Nat → Bool} (h : FlgAt w g n V) (hb : Below B w w') (hB : w.heap.size ≤ B) : FlgAt w' g n V :=
  ⟨Nat.lt_of_lt_of_le h.1 hb.size, fun j hj => ⟨(hb.cell (p := ⟨g, j, none⟩) (by have := h.1; simp; omega)).trans (h.2 j hj).1, (hb.frozen (p := ⟨g, j, none⟩) (by have := h.1; simp; omega)).trans (h.2 j hj).2⟩⟩
theorem FlgAt.grown {w w' : World} {g n : Nat} {V : Nat → Bool} {row : Option Nat} (h : FlgAt w g n V) (hg : w.grownBy w' row) (hne : some g ≠ row) : FlgAt w' g n V :=
  ⟨Nat.lt_of_lt_of_le h.1 hg.size, fun j hj => ⟨(World.cell?_of_block (w := w) (hg.block g h.1 hne)).trans (h.2 j hj).1, (World.frozen?_of_block (w := w) (hg.block g h.1 hne)).trans (h.2 j hj).2⟩⟩
theorem FlgAt.put {w : World} {g n : Nat} {V U : Nat → Bool} (h : FlgAt w g n V) {i : Nat} (hi : i < n) (hU : ∀ j, U j = (V j || decide (j = i))) : FlgAt (w.setCell ⟨g, i, none⟩ (.bool true)) g n U := by
  refine ⟨by simpa using h.1, fun j hj => ⟨?_, by simpa using (h.2 j hj).2⟩⟩
  rw [hU]
  by_cases e : j = i
  · subst e; simp only [decide_true, Bool.or_true]; exact World.cell?_setCell_same _ _ _ (h.2 j hj).1
  · simp only [e, decide_false, Bool.or_false]; exact other_cellL (by simp; try exact e) (h.2 j hj).1
theorem FlgAt.congr {w : World} {g n : Nat} {V U : Nat → Bool} (h : FlgAt w g n V) (e : ∀ j, U j = V j) : FlgAt w g n U := by rw [show U = V from funext e]; exact h
/-- The flags while a cell marks what it places: after t of its instances. -/
def flV (V : Nat → Bool) (d : List Ins) (t j : Nat) : Bool := V j || !alF (noPl (j : Int)) d t
theorem flV_zero (V : Nat → Bool) (d : List Ins) (j : Nat) : flV V d 0 j = V j := by unfold flV; rw [alF_zero]; simp
theorem flV_succ (V : Nat → Bool) {d : List Ins} {t : Nat} {s : Ins} (h : d[t]? = some s) (hs : 0 ≤ s.c) (j : Nat) : flV V d (t + 1) j = (flV V d t j || decide (j = s.c.toNat)) := by
  unfold flV
  rw [alF_succ h]
  have e : noPl (j : Int) s = !decide (j = s.c.toNat) := by
    unfold noPl
    congr 1
    exact decide_eq_decide.2 (by omega)
  rw [e]
  cases V j <;> cases alF (noPl (j : Int)) d t <;> simp
theorem flV_true {V : Nat → Bool} {d : List Ins} {t j : Nat} (h : V j = true) : flV V d t j = true := by unfold flV; rw [h]; rfl
theorem flV_end {L : List Cel} {k i n : Nat} {c : Cel} (hc : L[i]? = some c) (hn : i = L.length - 1 - n) (hv : rsB L k n i = true) (j : Nat) : rsB L k (n + 1) j = flV (rsB L k n) c.d c.d.length j := by
  rw [rsB_succ, ← hn, hv]
  unfold flV plF
  rw [hc, alF_full]
  simp [plB]
theorem rsB_off {L : List Cel} {k i n : Nat} (hn : i = L.length - 1 - n) (hv : rsB L k n i = false) (j : Nat) : rsB L k (n + 1) j = rsB L k n j := by
  rw [rsB_succ, ← hn, hv]
  simp
set_option maxRecDepth 100000 in
set_option maxHeartbeats 8000000 in
theorem l09Reached_any (a : Option Addr) (L : List Cel) (cap : Nat) (k : Nat) (w : World) (hp : libB L = true) (hk : k < L.length) (hL : CelsAt w.heap.size w a L) :
    Calls Tryd.prog 68 #[.agg #[.slice a L.length cap], .int .i64 (k : Int)] w fun e w' => (∃ g, e = .returned (.slice (some ⟨g, 0, none⟩) L.length L.length) ∧ w.heap.size ≤ g ∧ FlgAt w' g L.length (reB L k)) ∧ Below w.heap.size w w' := by
  have HL := Lib.hid hL
  have HP := Lib.hid hp
  have hlen := lib_len hp
  obtain ⟨hl1, hl2⟩ := hlen
  clear hL hp
  obtain ⟨i0, hi, hz0, hz1, hz2⟩ := info_parts infoBoL
  have r1 : (k : Int) < (L.length : Int) := by omega
  have r0 : (0 : Int) ≤ (k : Int) := by omega
  go_enter Tryd.func68, Tryd.ntmps68
  obtain ⟨w1, hw1⟩ : ∃ w1, w1 = w.alloc (.cells #[.slice a L.length cap] 26) := ⟨_, rfl⟩
  have s1 : w1.heap.size = w.heap.size + 1 := by rw [hw1]; simp
  have y1 : w1.cell? ⟨w.heap.size, 0, none⟩ = some (.slice a L.length cap) := by rw [hw1]; simp [go_sem]
  have B1 := Lib.hid (show Below w.heap.size w w1 by rw [hw1]; exact (Below.refl _ _).alloc (Nat.le_refl _) _)
  have HL1 := Lib.hid (HL.out.ext B1.out)
  go_wp2_with (at_make; rw [← hw1]; refine wpList_make_full _ rfl _ _ 100 rfl w1.heap.size 4 i0 (.bool false) 1 Tryd.underlying100 hi hz0 hz1 .i64 .i64 L.length L.length L.length rfl rfl rfl rfl (by rw [hz2]; omega) (by unfold maxLen; omega) (Nat.le_refl _) ?_; intro w2 own2 grow2; have F2 : Hid (FlgAt w2 w1.heap.size L.length (fun _ => false)) := Lib.hid ⟨(own2.lt w1.heap.size rfl).2, fun j hj => ⟨by rw [own2.cellAt j (by omega)]; exact made1L _ _ (by omega), own2.frozenAt _⟩⟩; have K12 := Lib.hid (show Below w1.heap.size w1 w2 from (Below.refl _ _).grown grow2 (Nat.le_refl _) (fun k hk => by cases hk)); have G2 := Lib.hid (show Below w.heap.size w w2 from B1.out.trans (K12.out.mono (by omega))); have Y2 := Lib.hid (show w2.cell? ⟨w.heap.size, 0, none⟩ = some (.slice a L.length cap) from (K12.out.cell (p := ⟨w.heap.size, 0, none⟩) (by rw [s1]; exact Nat.lt_succ_self _)).trans y1); have HL2 := Lib.hid (HL1.out.ext K12.out); rw [s1] at F2; have df2 := F2.out.2 k hk; have d2 := df2.1; have f2 := df2.2; clear df2; have sz2 := F2.out.1; clear own2 grow2)
  have F3 : Hid (FlgAt (w2.setCell ⟨w.heap.size + 1, k, none⟩ (.bool true)) (w.heap.size + 1) L.length (rsB L k 0)) := Lib.hid (F2.out.put hk (fun j => by simp [rsB]))
  have G3 := Lib.hid (show Below w.heap.size w (w2.setCell ⟨w.heap.size + 1, k, none⟩ (.bool true)) by have b := G2.out; (repeat (first | (with_reducible exact Below.refl _ _) | (with_reducible refine Ext.drewN ?_ _) | (with_reducible refine Below.drew ?_) | (with_reducible refine Ext.alloc ?_ _) | (with_reducible refine Ext.setCell ?_ (by simp; try omega) _) | (with_reducible refine Ext.trans ?_ (by assumption)) | (with_reducible assumption) | exact Below.refl _ _)))
  have Y3 : (w2.setCell ⟨w.heap.size + 1, k, none⟩ (.bool true)).cell? ⟨w.heap.size, 0, none⟩ = some (.slice a L.length cap) := other_cellL (by simp) Y2.out
  have HL3 : Hid (CelsAt w.heap.size (w2.setCell ⟨w.heap.size + 1, k, none⟩ (.bool true)) a L) := Lib.hid (HL.out.below G3.out)
  clear F2 G2 Y2 d2 f2 sz2 HL2 y1 hw1 HL1 hi hz0 hz1 hz2 r1 r0
  go_loopw [6] (fun s6 wr => ∃ (n : Nat) (z : Int), n ≤ L.length ∧ z = (L.length : Int) - 1 - (n : Int) ∧ s6 = .int .i64 z ∧ wr.cell? ⟨w.heap.size, 0, none⟩ = some (.slice a L.length cap) ∧ Hid (Below w.heap.size w wr) ∧ Hid (FlgAt wr (w.heap.size + 1) L.length (rsB L k n))) (fun s6 _ => (intOf s6 + 1).toNat)
  case atStart => exact ⟨0, _, by omega, rfl, by simp, Y3, G3, F3⟩
  case round =>
    clear Y3 G3 F3 HL3
    obtain ⟨n, z, hn, hz, rfl, Y, HW, HF⟩ := hrel
    by_cases hlt : n < L.length
    · obtain ⟨i, hiN⟩ : ∃ i : Nat, i = L.length - 1 - n := ⟨_, rfl⟩
      obtain rfl : z = (i : Int) := by omega
      have hiL : i < L.length := by omega
      have HIN := Lib.hid hiN
      have hin : i + n + 1 = L.length := by omega
      clear hiN hz
      obtain ⟨c, hc⟩ := get_some hiL
      obtain ⟨b, off, a1, a2, a3, k1, k2, k3, rfl, hb, z0, z1, z2, z3, hC⟩ := HL.out i c hc
      have c3 := (HW.out.cell (p := ⟨b, off + i * 4 + 3, none⟩) hb).trans z3
      have HI := Lib.hid hc
      have HC := Lib.hid hC
      have HC3 : Hid (∀ v, Below w.heap.size w v → v.cell? ⟨b, off + i * 4 + 3, none⟩ = some (.slice a3 c.d.length k3)) := Lib.hid fun v hv => (hv.cell (p := ⟨b, off + i * 4 + 3, none⟩) hb).trans z3
      have hd8 := (lib_lens HP.out hc).2.2.1
      obtain ⟨e0, f0⟩ := HF.out.2 i hiL
      have hsz := HF.out.1
      have q0 : (0 : Int) ≤ (i : Int) := by omega
      have q1 : (i : Int) < (L.length : Int) := by omega
      clear hc hC z0 z1 z2 z3
      cases hv : rsB L k n i with
      | false =>
        rw [hv] at e0
        have HF2 := Lib.hid (HF.out.congr (rsB_off HIN.out hv))
        clear hv
        go_wp2_with fail
        go_loopw [7] (fun s7 wr2 => s7 = .int .i64 0 ∧ wr2 = wr) (fun s7 _ => 0)
        case atStart => exact ⟨rfl, rfl⟩
        case round =>
          obtain ⟨rfl, rfl⟩ := hrel
          go_wp2_with fail
          go_roundw
          case rel => exact ⟨n + 1, _, by omega, by go_num, rfl, Y, HW, HF2⟩
          case measure => simp [intOf] <;> omega
      | true =>
        have HV := Lib.hid hv
        clear hv
        clear e0 f0
        go_wp2_with fail
        go_loopw [7] (fun s7 wr2 => ∃ t : Nat, t ≤ c.d.length ∧ s7 = .int .i64 (t : Nat) ∧ wr2.cell? ⟨w.heap.size, 0, none⟩ = some (.slice (some ⟨b, off, none⟩) L.length cap) ∧ Hid (Below w.heap.size w wr2) ∧ Hid (FlgAt wr2 (w.heap.size + 1) L.length (flV (rsB L k n) c.d t))) (fun s7 _ => c.d.length - (intOf s7).toNat)
        case atStart => exact ⟨0, by omega, rfl, Y, HW, Lib.hid (HF.out.congr (flV_zero _ _))⟩
        case round =>
          clear hsz HW HF Y
          obtain ⟨t, htk, rfl, Y, HW, HF⟩ := hrel
          clear c3
          have c3 := HC3.out wr HW.out
          obtain ⟨e0, f0⟩ := HF.out.2 i hiL
          rw [flV_true HV.out] at e0
          have hsz := HF.out.1
          by_cases hlt2 : t < c.d.length
          · obtain ⟨s, hsi⟩ := get_some hlt2
            obtain ⟨b', off', rfl, hb', x0, -⟩ := ins_at (HC.out.2.2.below HW.out) hsi
            obtain ⟨r1, r2⟩ := (lib_ins HP.out HI.out hsi).1
            have r3 : s.c < (L.length : Int) := by omega
            obtain ⟨e1, f1⟩ := HF.out.2 s.c.toNat (by omega)
            have HS := Lib.hid hsi
            have q5 : ((t : Nat) : Int) < (c.d.length : Int) := by omega
            have q6 : (0 : Int) ≤ ((t : Nat) : Int) := by omega
            have HF2 := Lib.hid (HF.out.put (i := s.c.toNat) (by omega) (flV_succ (rsB L k n) HS.out r1))
            clear hsi
            go_wp2_with fail
            go_roundw
            case rel => exact ⟨t + 1, by omega, by go_num, other_cellL (by simp) Y, Lib.hid (by have b := HW.out; (repeat (first | (with_reducible exact Below.refl _ _) | (with_reducible refine Ext.drewN ?_ _) | (with_reducible refine Below.drew ?_) | (with_reducible refine Ext.alloc ?_ _) | (with_reducible refine Ext.setCell ?_ (by simp; try omega) _) | (with_reducible refine Ext.trans ?_ (by assumption)) | (with_reducible assumption) | exact Below.refl _ _))), HF2⟩
            case measure => simp [intOf] <;> omega
          · have q5 : ¬ ((t : Nat) : Int) < (c.d.length : Int) := by omega
            have HF2 : Hid (FlgAt wr (w.heap.size + 1) L.length (rsB L k (n + 1))) := Lib.hid (HF.out.congr (fun j => by rw [show t = c.d.length by omega]; exact flV_end HI.out HIN.out HV.out j))
            go_wp2_with fail
            go_roundw
            case rel => exact ⟨n + 1, _, by omega, by go_num, rfl, Y, HW, HF2⟩
            case measure => simp [intOf] <;> omega
    · obtain rfl : n = L.length := by omega
      obtain rfl : z = -1 := by omega
      have HE := Lib.hid HF.out
      go_wp2_with fail
      go_ret
      exact ⟨⟨_, rfl, Nat.le_succ _, HE.out⟩, HW.out⟩
end Go.Proofs.YtciodcknobccdaaDoor
