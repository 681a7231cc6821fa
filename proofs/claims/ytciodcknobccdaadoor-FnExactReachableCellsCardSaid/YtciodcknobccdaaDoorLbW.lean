/- The program's validity of libraries: validation that aborts by a panic, which one deferred function recovers. Conditions: the cells' parts are in memory; impl.chip holds its value. -/
import Derived.Test.YtciodcknobccdaaDoorLbV
import Derived.Defers
import Derived.Recover
import Derived.WalkSmall
import Derived.Lib.ConvBytes
import Derived.Laws.Pointers
namespace Go.Proofs.YtciodcknobccdaaDoor
open Go.RowKit
set_option linter.unusedVariables false
set_option linter.unusedSimpArgs false
attribute [local go_sem ↓] Go.wp_at_zero Go.wp_at_succ

/-- How a validation ends that fails. -/
abbrev nvE : Ending := .panicked [{ v := .iface 9 (.string ⟨#[110, 111, 116, 32, 118, 97, 108, 105, 100]⟩), recovered := false }]
theorem require_t (w : World) : Calls Tryd.prog 156 #[.bool true] w fun e w' => e = .returned (.tuple #[]) ∧ w = w' := by
  go_enter Tryd.func156, Tryd.ntmps156
  go_wp2_with fail
  go_end0
  exact ⟨rfl, rfl⟩
theorem require_f (w : World) : Calls Tryd.prog 156 #[.bool false] w fun e w' => e = nvE ∧ w = w' := by
  go_enter Tryd.func156, Tryd.ntmps156
  go_wp2_with fail
  exact ⟨rfl, rfl, rfl⟩
theorem passes1_idle (g : Nat) (x : Bool) (w : World) (hc : w.cell? ⟨g, 0, none⟩ = some (.bool x)) (hz : w.frozen? ⟨g, 0, none⟩ = false) :
    CallsD Tryd.prog 155 #[.pointer (some ⟨g, 0, none⟩)] .returning w fun e u' w' => e = .returned (.tuple #[]) ∧ u' = .returning ∧ w' = w.setCell ⟨g, 0, none⟩ (.bool true) := by
  refine callsD_of_wpS Tryd.func155 rfl fun c₀ cs hu => ?_
  apply wpS_region
  simp [wpOpsS, go_sem, recoverD, hu, Tryd.ntmps155, hc, hz, Exit.thenS, bodyPostS, results, Tryd.results155]
  cases c₀
  simp_all
theorem passes1_panicking (g : Nat) (x : Bool) (u : TypeId) (pv : Value) (older : List PanicEntry) (w : World) (hc : w.cell? ⟨g, 0, none⟩ = some (.bool x)) (hz : w.frozen? ⟨g, 0, none⟩ = false) :
    CallsD Tryd.prog 155 #[.pointer (some ⟨g, 0, none⟩)] (.panicking ({ v := .iface u pv, recovered := false } :: older)) w fun e u' w' => e = .returned (.tuple #[]) ∧ u' = .panicking ({ v := .iface u pv, recovered := true } :: older) ∧ w' = w.setCell ⟨g, 0, none⟩ (.bool false) := by
  refine callsD_of_wpS Tryd.func155 rfl fun c₀ cs hu => ?_
  apply wpS_region
  simp [wpOpsS, go_sem, recoverD, hu, Tryd.ntmps155, hc, hz, Exit.thenS, bodyPostS, results, Tryd.results155]
/-- A validation that comes to its end. -/
theorem passes_t (a : Option Addr) (n c : Nat) (w : World) (hv : ∀ w1, Below w.heap.size w w1 → Calls Tryd.prog 136 #[.agg #[.slice a n c]] w1 fun e w' => e = .returned (.tuple #[]) ∧ Below w1.heap.size w1 w') :
    Calls Tryd.prog 135 #[.func (.func 136) #[.agg #[.slice a n c]] #[]] w fun e w' => e = .returned (.bool true) ∧ Below w.heap.size w w' := by
  have hmf : ∀ (fn : Fn) (first cap : Array Value) (w : World), (Instr.makeFunc fn first cap).run Tryd.prog w = .ok (.func fn first cap) w := fun _ _ _ _ => rfl
  go_enter_defers Tryd.func135, Tryd.ntmps135
  go_wp2_with (first | (go_at_call 136; refine (hv _ (by (repeat (first | (with_reducible exact Below.refl _ _) | (with_reducible refine Ext.drewN ?_ _) | (with_reducible refine Below.drew ?_) | (with_reducible refine Ext.alloc ?_ _) | (with_reducible refine Ext.setCell ?_ (by simp; try omega) _) | (with_reducible refine Ext.trans ?_ (by assumption)) | (with_reducible assumption) | exact Below.refl _ _)))).mono ?_; rintro e v1 ⟨rfl, bv1⟩; obtain ⟨sv1, zv1, cv1, fv1⟩ := bcell bv1; (try simp only [World.size_alloc, World.size_setCell, World.size_drew] at sv1)))
  refine leaves_cons (f := 155) (args := #[.pointer (some ⟨w.heap.size, 0, none⟩)]) (by simp) (by simp [go_sem]) ?_
  refine (passes1_idle w.heap.size true _ ?_ ?_).mono ?_
  · simp [go_sem, *]
  · simp [go_sem, *]
  rintro e u' w'' ⟨rfl, rfl, rfl⟩
  have hc2 : ∀ u, (v1.setCell ⟨w.heap.size, 0, none⟩ u).cell? ⟨w.heap.size, 0, none⟩ = some u := fun u => World.cell?_setCell_same _ _ _ (keepC bv1 (v := .bool false) (by simp [go_sem]))
  have hc3 : ∀ u t, ((v1.setCell ⟨w.heap.size, 0, none⟩ u).setCell ⟨w.heap.size, 0, none⟩ t).cell? ⟨w.heap.size, 0, none⟩ = some t := fun u t => World.cell?_setCell_same _ _ _ (hc2 u)
  simp [Leaves, settle, results, Tryd.results135, go_sem, hc3]
  (repeat (first | (with_reducible exact Below.refl _ _) | (with_reducible refine Ext.drewN ?_ _) | (with_reducible refine Below.drew ?_) | (with_reducible refine Ext.alloc ?_ _) | (with_reducible refine Ext.setCell ?_ (by simp; try omega) _) | (with_reducible refine Ext.trans ?_ (by assumption)) | (with_reducible assumption) | exact Below.refl _ _))
theorem isName1_any (z : Int) (w : World) (h : 0 ≤ z ∧ z ≤ 255) : Calls Tryd.prog 184 #[.int .u8 z] w fun e w' => e = .returned (.bool (!inB z 97 122 && !inB z 48 57)) ∧ w = w' := by
  obtain ⟨h0, h2⟩ := h
  by_cases h1 : inB z 97 122 = true
  all_goals
    go_enter Tryd.func184, Tryd.ntmps184
    go_wp2_with (go_at_call 87; go_call inRange_any as e w' ⟨rfl, rfl⟩)
    go_ret
    exact ⟨ret_bool (by simp [h1]), rfl⟩
/-- Bytes that lie in memory. -/
def BytesAt (B : Nat) (w : World) (a : Option Addr) (l : List UInt8) : Prop := ∀ i b, l[i]? = some b → ∃ g off : Nat, a = some ⟨g, off, none⟩ ∧ g < B ∧ w.cell? ⟨g, off + i, none⟩ = some (.int .u8 (b.toNat : Int))
theorem nb_inB (b : UInt8) : (!inB (b.toNat : Int) 97 122 && !inB (b.toNat : Int) 48 57) = !nbB b := by
  unfold inB nbB
  rw [Bool.eq_iff_iff]
  simp only [Bool.and_eq_true, Bool.not_eq_true', decide_eq_false_iff_not, Bool.or_eq_false_iff]
  omega
set_option maxHeartbeats 4000000 in
theorem indexOther_any (a : Option Addr) (l : List UInt8) (cap : Nat) (w : World) (hlen : l.length ≤ 1048576) (hB : BytesAt w.heap.size w a l) :
    Calls Tryd.prog 190 #[.slice a l.length cap, .func (.func 184) #[] #[]] w fun e w' => (∃ r : Int, e = .returned (.int .i64 r) ∧ decide (0 ≤ r) = !l.all nbB) ∧ Below w.heap.size w w' := by
  have HB := Lib.hid hB
  clear hB
  go_enter Tryd.func190, Tryd.ntmps190
  go_wp2_with fail
  go_loopw [8] (fun s8 wr => ∃ i : Nat, i ≤ l.length ∧ s8 = .int .i64 (i : Nat) ∧ Hid (alF nbB l i = true) ∧ Below w.heap.size w wr) (fun s8 _ => l.length - (intOf s8).toNat)
  case atStart => exact ⟨0, by omega, rfl, Lib.hid (alF_zero _ _), Below.refl _ _⟩
  case round =>
    obtain ⟨i, hi, rfl, HA, hW⟩ := hrel
    by_cases hlt : i < l.length
    · obtain ⟨b, hb⟩ := get_some hlt
      obtain ⟨g, off, rfl, hg, c0⟩ := HB.out i b hb
      have d0 := (hW.cell (p := ⟨g, off + i, none⟩) hg).trans c0
      obtain ⟨z, hz⟩ : ∃ z : Int, z = (b.toNat : Int) := ⟨_, rfl⟩
      have hz2 : 0 ≤ z ∧ z ≤ 255 := by have := b.toNat_lt; omega
      rw [← hz] at d0
      have hnb := nb_inB b
      rw [← hz] at hnb
      have HNB := Lib.hid hnb
      have HI := Lib.hid hb
      clear hb hnb c0 hz
      have q1 : ((i : Nat) : Int) < (l.length : Int) := by omega
      have q0 : (0 : Int) ≤ ((i : Nat) : Int) := by omega
      cases hr : nbB b with
      | true =>
        have HA1 : Hid (alF nbB l (i + 1) = true) := Lib.hid (by rw [alF_succ HI.out, HA.out, hr]; rfl)
        go_wp2_with (first | (go_at_call 184; refine (isName1_any _ _ hz2).mono ?_; rintro e v0 ⟨rfl, rfl⟩; rw [HNB.out, hr]))
        go_roundw
        case rel => exact ⟨i + 1, by omega, by go_num, HA1, hW⟩
        case measure => simp [intOf]; omega
      | false =>
        have HN : Hid (l.all nbB = false) := Lib.hid (all_f HI.out hr)
        go_wp2_with (first | (go_at_call 184; refine (isName1_any _ _ hz2).mono ?_; rintro e v0 ⟨rfl, rfl⟩; rw [HNB.out, hr]))
        refine bodyPost_ret (v := .int .i64 (i : Nat)) (by simp [*, results, Tryd.results190, go_sem]) rfl ⟨⟨_, rfl, by rw [HN.out]; simp⟩, ?_⟩
        exact hW
    · have q1 : ¬ ((i : Nat) : Int) < (l.length : Int) := by omega
      have HN : Hid (l.all nbB = true) := Lib.hid (by rw [← alF_full, show l.length = i by omega]; exact HA.out)
      go_wp2_with fail
      refine bodyPost_ret (v := .int .i64 (-1)) (by simp [*, results, Tryd.results190, go_sem]) rfl ⟨⟨_, rfl, by rw [HN.out]; decide⟩, ?_⟩
      exact hW
theorem containsOther_any (a : Option Addr) (l : List UInt8) (cap : Nat) (w : World) (hlen : l.length ≤ 1048576) (hB : BytesAt w.heap.size w a l) :
    Calls Tryd.prog 185 #[.slice a l.length cap, .func (.func 184) #[] #[]] w fun e w' => e = .returned (.bool (!l.all nbB)) ∧ Below w.heap.size w w' := by
  go_enter Tryd.func185, Tryd.ntmps185
  go_wp2_with fail
  refine (indexOther_any a l cap _ hlen hB).mono ?_
  rintro e w1 ⟨⟨r, rfl, hr⟩, bw1⟩
  have HR1 := Lib.hid hr
  clear hr
  go_wp2_with fail
  refine bodyPost_ret (v := .bool (decide (0 ≤ r))) (by simp [*, results, Tryd.results185, go_sem]) rfl ⟨by rw [HR1.out], ?_⟩
  (repeat (first | (with_reducible exact Below.refl _ _) | (with_reducible refine Ext.drewN ?_ _) | (with_reducible refine Below.drew ?_) | (with_reducible refine Ext.alloc ?_ _) | (with_reducible refine Ext.setCell ?_ (by simp; try omega) _) | (with_reducible refine Ext.trans ?_ (by assumption)) | (with_reducible assumption) | exact Below.refl _ _))
theorem bytes_grown (w : World) (e : TypeId) (s : ByteArray) : Below w.heap.size w (Go.Lib.bytesWorld w e s) :=
  ⟨rfl, rfl, rfl, by rw [Go.Lib.bytesWorld_size]; omega, fun k hk => Go.Lib.bytesWorld_at_old w e s k hk⟩
theorem bytes_at (w : World) (e : TypeId) (s : ByteArray) : BytesAt (Go.Lib.bytesWorld w e s).heap.size (Go.Lib.bytesWorld w e s) (some ⟨w.heap.size, 0, none⟩) s.data.toList := fun i b hb => by
  have hl := get_lt hb
  rw [← Go.Lib.size_eq] at hl
  refine ⟨w.heap.size, 0, rfl, by rw [Go.Lib.bytesWorld_size]; omega, ?_⟩
  rw [Nat.zero_add, Go.Lib.bytesWorld_cell w e s i hl, List.getD, hb]
  rfl
set_option maxRecDepth 100000 in
theorem implIsName_any (s : ByteArray) (w : World) (hs : s.size ≤ 1048576) : Calls Tryd.prog 174 #[.string s] w fun e w' => e = .returned (.bool (nmB s)) ∧ Below w.heap.size w w' := by
  have hmf : ∀ (fn : Fn) (first cap : Array Value) (w : World), (Instr.makeFunc fn first cap).run Tryd.prog w = .ok (.func fn first cap) w := fun _ _ _ _ => rfl
  by_cases h1 : 1 ≤ s.size ∧ s.size ≤ 8
  · have h2 : inB (s.size : Int) 1 8 = true := by unfold inB; exact decide_eq_true (by omega)
    have q1 : IntKind.i64.wrap (s.size : Int) = (s.size : Int) := by rw [IntKind.wrap_i64]; omega
    have hcv := Go.Lib.run_convert_string_bytes (P := Tryd.prog) w 9 22 5 s Tryd.underlying9 Tryd.underlying22 Tryd.underlying5
    obtain ⟨wb, hwb⟩ : ∃ wb, wb = Go.Lib.bytesWorld w 5 s := ⟨_, rfl⟩
    have hg := bytes_grown w 5 s
    have hb := bytes_at w 5 s
    rw [← hwb] at hcv hg hb
    have HB := Lib.hid hb
    have HN : Hid (nmB s = s.data.toList.all nbB) := Lib.hid (by unfold nmB; rw [decide_eq_true h1]; rfl)
    have hsz : s.size = s.data.toList.length := Go.Lib.size_eq s
    have HSZ := Lib.hid hsz
    clear hwb hb hsz
    go_enter Tryd.func174, Tryd.ntmps174
    go_wp2_with (first | (go_at_call 87; go_call inRange_any as e w' ⟨rfl, rfl⟩; rw [h2]) | (go_at_call 185; rw [HSZ.out]; refine (containsOther_any _ _ _ _ (by have := HSZ.out; omega) HB.out).mono ?_; rintro e v2 ⟨rfl, bv2⟩))
    go_ret
    exact ⟨ret_bool (by simp [HN.out]), by (repeat (first | (with_reducible exact Below.refl _ _) | (with_reducible refine Ext.drewN ?_ _) | (with_reducible refine Below.drew ?_) | (with_reducible refine Ext.alloc ?_ _) | (with_reducible refine Ext.setCell ?_ (by simp; try omega) _) | (with_reducible refine Ext.trans ?_ (by assumption)) | (with_reducible assumption) | exact Below.refl _ _))⟩
  · have h2 : inB (s.size : Int) 1 8 = false := by unfold inB; exact decide_eq_false (by omega)
    have hn : Hid (nmB s = false) := Lib.hid (by unfold nmB; rw [decide_eq_false h1]; rfl)
    have q1 : IntKind.i64.wrap (s.size : Int) = (s.size : Int) := by rw [IntKind.wrap_i64]; omega
    go_enter Tryd.func174, Tryd.ntmps174
    go_wp2_with (first | (go_at_call 87; go_call inRange_any as e w' ⟨rfl, rfl⟩; rw [h2]))
    go_ret
    exact ⟨ret_bool (by simp [hn.out]), by (repeat (first | (with_reducible exact Below.refl _ _) | (with_reducible refine Ext.drewN ?_ _) | (with_reducible refine Below.drew ?_) | (with_reducible refine Ext.alloc ?_ _) | (with_reducible refine Ext.setCell ?_ (by simp; try omega) _) | (with_reducible refine Ext.trans ?_ (by assumption)) | (with_reducible assumption) | exact Below.refl _ _))⟩
end Go.Proofs.YtciodcknobccdaaDoor
