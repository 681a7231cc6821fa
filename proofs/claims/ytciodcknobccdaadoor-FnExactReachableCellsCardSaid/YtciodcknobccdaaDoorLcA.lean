/- The first cell of a name; the program's validation of a library. Conditions: the cells' parts are in memory; impl.chip holds its value. -/
import Derived.Test.YtciodcknobccdaaDoorLbZ
namespace Go.Proofs.YtciodcknobccdaaDoor
open Go.RowKit
set_option linter.unusedVariables false
set_option linter.unusedSimpArgs false
attribute [local go_sem ↓] Go.wp_at_zero Go.wp_at_succ

/-- The index of the first cell of a name, or -1. -/
def IsFst (L : List Cel) (s : ByteArray) (r : Int) : Prop :=
  (r = -1 ∧ ∀ (i : Nat) (c : Cel), L[i]? = some c → c.s ≠ s) ∨ ∃ (i : Nat) (c : Cel), r = (i : Int) ∧ L[i]? = some c ∧ c.s = s ∧ ∀ (j : Nat) (d : Cel), j < i → L[j]? = some d → d.s ≠ s
theorem newB_iff (L : List Cel) (s : ByteArray) (n : Nat) : newB L n s = true ↔ ∀ (j : Nat) (d : Cel), j < n → L[j]? = some d → d.s ≠ s := by
  unfold newB alF
  rw [List.all_eq_true]
  constructor
  · intro h j d hj hd e
    have := h d (List.mem_of_getElem? (show (L.take n)[j]? = some d by rw [List.getElem?_take, if_pos hj]; exact hd))
    simp [e] at this
  · intro h d hd
    obtain ⟨j, hj⟩ := List.mem_iff_getElem?.1 hd
    rw [List.getElem?_take] at hj
    by_cases hjn : j < n
    · rw [if_pos hjn] at hj
      simp [h j d hjn hj]
    · rw [if_neg hjn] at hj; cases hj
theorem IsFst.unique {L : List Cel} {s : ByteArray} {r q : Int} (h : IsFst L s r) (k : IsFst L s q) : r = q := by
  rcases h with ⟨rfl, h⟩ | ⟨i, c, rfl, hi, hc, hb⟩
  · rcases k with ⟨rfl, _⟩ | ⟨j, d, rfl, hj, hd, _⟩
    · rfl
    · exact absurd hd (h j d hj)
  · rcases k with ⟨rfl, k⟩ | ⟨j, d, rfl, hj, hd, kb⟩
    · exact absurd hc (k i c hi)
    · rcases Nat.lt_trichotomy i j with h | h | h
      · exact absurd hc (kb i c h hi)
      · rw [h]
      · exact absurd hd (hb j d h hj)
theorem IsFst.bound {L : List Cel} {s : ByteArray} {r : Int} (h : IsFst L s r) : -1 ≤ r ∧ r < L.length ∨ r = -1 := by
  rcases h with ⟨rfl, _⟩ | ⟨i, c, rfl, hi, _⟩
  · exact .inr rfl
  · have := get_lt hi; exact .inl ⟨by omega, by omega⟩
theorem fst_self {L : List Cel} {i : Nat} {c : Cel} {r : Int} (hi : L[i]? = some c) (h : IsFst L c.s r) : decide (r = (i : Int)) = newB L i c.s := by
  cases hn : newB L i c.s with
  | true => exact decide_eq_true (h.unique (.inr ⟨i, c, rfl, hi, rfl, (newB_iff L c.s i).1 hn⟩))
  | false =>
    refine decide_eq_false fun e => ?_
    subst e
    rcases h with ⟨e, _⟩ | ⟨j, d, e, hj, hd, hb⟩
    · omega
    · have : j = i := by omega
      subst this
      rw [(newB_iff L c.s j).2 hb] at hn
      cases hn
theorem fst_t {L : List Cel} {i : Nat} {c : Cel} {r : Int} (hi : L[i]? = some c) (h : IsFst L c.s r) (hn : newB L i c.s = true) : r = (i : Int) := by
  have := fst_self hi h
  rw [hn] at this
  exact of_decide_eq_true this
theorem fst_f {L : List Cel} {i : Nat} {c : Cel} {r : Int} (hi : L[i]? = some c) (h : IsFst L c.s r) (hn : newB L i c.s = false) : (r == (i : Int)) = false := by
  have := fst_self hi h
  rw [hn] at this
  exact beq_eq_false_iff_ne.2 (of_decide_eq_false this)
theorem named1_any (c : Cel) (a1 a2 a3 : Option Addr) (k1 k2 k3 : Nat) (s : ByteArray) (g : Nat) (w : World) (hx : w.cell? ⟨g, 0, none⟩ = some (.string s)) (lx : g < w.heap.size) :
    Calls Tryd.prog 179 #[.agg #[.string c.s, .slice a1 c.a.length k1, .slice a2 c.b.length k2, .slice a3 c.d.length k3], .pointer (some ⟨g, 0, none⟩)] w fun e w' => e = .returned (.bool (decide (c.s = s))) ∧ Below w.heap.size w w' := by
  have hx2 : ∀ O, (w.alloc O).cell? ⟨g, 0, none⟩ = some (.string s) := fun O => keepC ((Below.refl _ _).alloc (Nat.le_refl _) O) hx
  by_cases h : c.s = s
  · have hq : (c.s.toList == s.toList) = true := (Go.Lib.bytes_beq_iff _ _).2 h
    go_enter Tryd.func179, Tryd.ntmps179
    go_wp2_with fail
    go_ret
    exact ⟨ret_bool (by simp [hq, h]), by (repeat (first | (with_reducible exact Below.refl _ _) | (with_reducible refine Ext.drewN ?_ _) | (with_reducible refine Below.drew ?_) | (with_reducible refine Ext.alloc ?_ _) | (with_reducible refine Ext.setCell ?_ (by simp; try omega) _) | (with_reducible refine Ext.trans ?_ (by assumption)) | (with_reducible assumption) | exact Below.refl _ _))⟩
  · have hq : (c.s.toList == s.toList) = false := (Go.Lib.bytes_beq_false_iff _ _).2 h
    go_enter Tryd.func179, Tryd.ntmps179
    go_wp2_with fail
    go_ret
    exact ⟨ret_bool (by simp [hq, h]), by (repeat (first | (with_reducible exact Below.refl _ _) | (with_reducible refine Ext.drewN ?_ _) | (with_reducible refine Below.drew ?_) | (with_reducible refine Ext.alloc ?_ _) | (with_reducible refine Ext.setCell ?_ (by simp; try omega) _) | (with_reducible refine Ext.trans ?_ (by assumption)) | (with_reducible assumption) | exact Below.refl _ _))⟩
set_option maxHeartbeats 4000000 in
theorem indexNamed_any (a : Option Addr) (L : List Cel) (cap : Nat) (s : ByteArray) (g : Nat) (w : World) (hlen : L.length ≤ 1048576) (hL : CelsAt w.heap.size w a L) (hx : w.cell? ⟨g, 0, none⟩ = some (.string s)) (lx : g < w.heap.size) :
    Calls Tryd.prog 178 #[.slice a L.length cap, .func (.func 179) #[] #[.pointer (some ⟨g, 0, none⟩)]] w fun e w' => (∃ r : Int, e = .returned (.int .i64 r) ∧ IsFst L s r) ∧ Below w.heap.size w w' := by
  have HL := Lib.hid hL
  clear hL
  go_enter Tryd.func178, Tryd.ntmps178
  go_wp2_with fail
  go_loopw [8] (fun s8 wr => ∃ i : Nat, i ≤ L.length ∧ s8 = .int .i64 (i : Nat) ∧ Hid (newB L i s = true) ∧ Below w.heap.size w wr) (fun s8 _ => L.length - (intOf s8).toNat)
  case atStart => exact ⟨0, by omega, rfl, Lib.hid (alF_zero _ _), Below.refl _ _⟩
  case round =>
    obtain ⟨i, hi, rfl, HA, hW⟩ := hrel
    by_cases hlt : i < L.length
    · obtain ⟨c, hc⟩ := get_some hlt
      obtain ⟨b, off, a1, a2, a3, k1, k2, k3, rfl, hb, c0, c1, c2, c3, _⟩ := (HL.out.below hW) i c hc
      have hx' := (hW.cell (p := ⟨g, 0, none⟩) lx).trans hx
      have sW := hW.size
      have q1 : ((i : Nat) : Int) < (L.length : Int) := by omega
      have q0 : (0 : Int) ≤ ((i : Nat) : Int) := by omega
      have HI := Lib.hid hc
      clear hc
      by_cases he : c.s = s
      · have hd := decide_eq_true he
        have HN : Hid (IsFst L s (i : Int)) := Lib.hid (.inr ⟨i, c, rfl, HI.out, he, (newB_iff L s i).1 HA.out⟩)
        clear he
        go_wp2_with (first | (go_at_call 179; refine (named1_any c _ _ _ _ _ _ s g _ hx' (by omega)).mono ?_; rintro e v0 ⟨rfl, bv0⟩; rw [hd]))
        refine bodyPost_ret (v := .int .i64 (i : Nat)) (by simp [*, results, Tryd.results178, go_sem]) rfl ⟨⟨_, rfl, HN.out⟩, ?_⟩
        (repeat (first | (with_reducible exact Below.refl _ _) | (with_reducible refine Ext.drewN ?_ _) | (with_reducible refine Below.drew ?_) | (with_reducible refine Ext.alloc ?_ _) | (with_reducible refine Ext.setCell ?_ (by simp; try omega) _) | (with_reducible refine Ext.trans ?_ (by assumption)) | (with_reducible assumption) | exact Below.refl _ _))
      · have hd := decide_eq_false he
        have HA1 : Hid (newB L (i + 1) s = true) := Lib.hid (by have h := HA.out; unfold newB at h ⊢; rw [alF_succ HI.out, h]; simp [he])
        clear he
        go_wp2_with (first | (go_at_call 179; refine (named1_any c _ _ _ _ _ _ s g _ hx' (by omega)).mono ?_; rintro e v0 ⟨rfl, bv0⟩; rw [hd]))
        go_roundw
        case rel => exact ⟨i + 1, by omega, by go_num, HA1, by (repeat (first | (with_reducible exact Below.refl _ _) | (with_reducible refine Ext.drewN ?_ _) | (with_reducible refine Below.drew ?_) | (with_reducible refine Ext.alloc ?_ _) | (with_reducible refine Ext.setCell ?_ (by simp; try omega) _) | (with_reducible refine Ext.trans ?_ (by assumption)) | (with_reducible assumption) | exact Below.refl _ _))⟩
        case measure => simp [intOf]; omega
    · have q1 : ¬ ((i : Nat) : Int) < (L.length : Int) := by omega
      have HN : Hid (IsFst L s (-1)) := Lib.hid (.inl ⟨rfl, fun j d hj => (newB_iff L s i).1 HA.out j d (by have := get_lt hj; omega) hj⟩)
      go_wp2_with fail
      refine bodyPost_ret (v := .int .i64 (-1)) (by simp [*, results, Tryd.results178, go_sem]) rfl ⟨⟨_, rfl, HN.out⟩, ?_⟩
      (repeat (first | (with_reducible exact Below.refl _ _) | (with_reducible refine Ext.drewN ?_ _) | (with_reducible refine Below.drew ?_) | (with_reducible refine Ext.alloc ?_ _) | (with_reducible refine Ext.setCell ?_ (by simp; try omega) _) | (with_reducible refine Ext.trans ?_ (by assumption)) | (with_reducible assumption) | exact Below.refl _ _))
theorem firstNamed_any (a : Option Addr) (L : List Cel) (cap : Nat) (s : ByteArray) (w : World) (hlen : L.length ≤ 1048576) (hL : CelsAt w.heap.size w a L) :
    Calls Tryd.prog 158 #[.agg #[.slice a L.length cap], .string s] w fun e w' => (∃ r : Int, e = .returned (.int .i64 r) ∧ IsFst L s r) ∧ Below w.heap.size w w' := by
  have HL := Lib.hid hL
  clear hL
  have hmf : ∀ (fn : Fn) (first cap : Array Value) (w : World), (Instr.makeFunc fn first cap).run Tryd.prog w = .ok (.func fn first cap) w := fun _ _ _ _ => rfl
  go_enter Tryd.func158, Tryd.ntmps158
  go_wp2_with fail
  refine (indexNamed_any a L cap s (w.heap.size + 1) _ hlen (HL.out.ext (by (repeat (first | (with_reducible exact Below.refl _ _) | (with_reducible refine Ext.drewN ?_ _) | (with_reducible refine Below.drew ?_) | (with_reducible refine Ext.alloc ?_ _) | (with_reducible refine Ext.setCell ?_ (by simp; try omega) _) | (with_reducible refine Ext.trans ?_ (by assumption)) | (with_reducible assumption) | exact Below.refl _ _)))) (by simp [go_sem]) (by simp)).mono ?_
  rintro e v1 ⟨⟨r, rfl, hr⟩, bv1⟩
  have hb := hr.bound
  have HR := Lib.hid hr
  have q1 : IntKind.i64.wrap r = r := by rw [IntKind.wrap_i64]; omega
  clear hr hb
  go_wp2_with fail
  go_ret
  exact ⟨⟨r, by first | rfl | rw [q1], HR.out⟩, by (repeat (first | (with_reducible exact Below.refl _ _) | (with_reducible refine Ext.drewN ?_ _) | (with_reducible refine Below.drew ?_) | (with_reducible refine Ext.alloc ?_ _) | (with_reducible refine Ext.setCell ?_ (by simp; try omega) _) | (with_reducible refine Ext.trans ?_ (by assumption)) | (with_reducible assumption) | exact Below.refl _ _))⟩
set_option maxRecDepth 100000 in
set_option maxHeartbeats 8000000 in
theorem libVal_any (a : Option Addr) (L : List Cel) (cap : Nat) (w : World) (hCh : ChipW w) (hs : szCs L ≤ 1048576) (hL : CelsAt w.heap.size w a L) :
    Calls Tryd.prog 136 #[.agg #[.slice a L.length cap]] w fun e w' => e = vE (libB L) ∧ Below w.heap.size w w' := by
  have HL := Lib.hid hL
  have hlen := sz_len hs
  have HZ := Lib.hid hs
  have HCh := Lib.hid hCh
  clear hL hs hCh
  have q1 : IntKind.i64.wrap (L.length : Int) = (L.length : Int) := by rw [IntKind.wrap_i64]; omega
  by_cases h1 : 1 ≤ L.length ∧ L.length ≤ 8
  case neg =>
    rw [lib_no h1, vE_f]
    have h2 : inB (L.length : Int) 1 8 = false := by unfold inB; exact decide_eq_false (by omega)
    clear h1
    go_enter Tryd.func136, Tryd.ntmps136
    go_wp2_with (first | (go_at_call 87; refine (inRange_any _ _ _ _).mono ?_; rintro e v0 ⟨rfl, rfl⟩; rw [h2]) | (go_at_call 156; refine (require_f _).mono ?_; rintro e v2 ⟨rfl, rfl⟩))
    exact ⟨rfl, rfl, by (repeat (first | (with_reducible exact Below.refl _ _) | (with_reducible refine Ext.drewN ?_ _) | (with_reducible refine Below.drew ?_) | (with_reducible refine Ext.alloc ?_ _) | (with_reducible refine Ext.setCell ?_ (by simp; try omega) _) | (with_reducible refine Ext.trans ?_ (by assumption)) | (with_reducible assumption) | exact Below.refl _ _))⟩
  obtain ⟨h11, h12⟩ := h1
  have h2 : inB (L.length : Int) 1 8 = true := by unfold inB; exact decide_eq_true (by omega)
  go_enter Tryd.func136, Tryd.ntmps136
  go_wp2_with (first | (go_at_call 87; refine (inRange_any _ _ _ _).mono ?_; rintro e v0 ⟨rfl, rfl⟩; rw [h2]) | (go_at_call 156; refine (require_t _).mono ?_; rintro e v2 ⟨rfl, rfl⟩))
  go_loopw [12] (fun s4 wr => ∃ i : Nat, i ≤ L.length ∧ s4 = .int .i64 (i : Nat) ∧ Hid (upB L i = true) ∧ Below w.heap.size w wr ∧ Hid (BoxL w.heap.size wr a L.length cap)) (fun s4 _ => L.length - (intOf s4).toNat)
  case atStart => exact ⟨0, by omega, rfl, Lib.hid (upB_zero _), by (repeat (first | (with_reducible exact Below.refl _ _) | (with_reducible refine Ext.drewN ?_ _) | (with_reducible refine Below.drew ?_) | (with_reducible refine Ext.alloc ?_ _) | (with_reducible refine Ext.setCell ?_ (by simp; try omega) _) | (with_reducible refine Ext.trans ?_ (by assumption)) | (with_reducible assumption) | exact Below.refl _ _)), Lib.hid ⟨by simp, by simp [go_sem]⟩⟩
  case round =>
    obtain ⟨i, hik, rfl, HU, hW, HX⟩ := hrel
    obtain ⟨x0, y0⟩ := HX.out
    by_cases hlt : i < L.length
    · obtain ⟨c, hi⟩ := get_some hlt
      obtain ⟨b, off, a1, a2, a3, k1, k2, k3, rfl, hb, c0, c1, c2, c3, hC⟩ := (HL.out.below hW) i c hi
      obtain ⟨hs1, hs2, hs3, hs4, hs5⟩ := sz_at HZ.out hi
      have HC := Lib.hid (hC.mono hW.size)
      clear hC
      have r3 : ((i : Nat) : Int) < (L.length : Int) := by omega
      have r0 : (0 : Int) ≤ ((i : Nat) : Int) := by omega
      have r1 : ((i : Nat) : Int) ≤ 8 := by omega
      have HI := Lib.hid hi
      have hWs := hW.size
      clear hi
      cases hp : celB i c with
      | false =>
        have HN := Lib.hid (lib_bad HI.out (.inl hp))
        go_wp2_with (first | (go_at_call 157; refine (celVal_any c _ _ _ _ _ _ (i : Int) _ (HCh.out.ext (by (repeat (first | (with_reducible exact Below.refl _ _) | (with_reducible refine Ext.drewN ?_ _) | (with_reducible refine Below.drew ?_) | (with_reducible refine Ext.alloc ?_ _) | (with_reducible refine Ext.setCell ?_ (by simp; try omega) _) | (with_reducible refine Ext.trans ?_ (by assumption)) | (with_reducible assumption) | exact Below.refl _ _)))) (by omega) hs1 hs2 hs3 hs4 hs5 (HC.out.ext (by (repeat (first | (with_reducible exact Below.refl _ _) | (with_reducible refine Ext.drewN ?_ _) | (with_reducible refine Below.drew ?_) | (with_reducible refine Ext.alloc ?_ _) | (with_reducible refine Ext.setCell ?_ (by simp; try omega) _) | (with_reducible refine Ext.trans ?_ (by assumption)) | (with_reducible assumption) | exact Below.refl _ _))))).mono ?_; rintro e v1 ⟨rfl, bv1⟩; obtain ⟨sv1, zv1, cv1, fv1⟩ := bcell bv1; (try simp only [World.size_alloc, World.size_setCell, World.size_drew] at sv1); (try have nv1 : wr.heap.size < v1.heap.size := by omega); (try have nv2 : w.heap.size < v1.heap.size := by omega); rw [hp, vE_f]))
        exact ⟨rfl, by rw [HN.out]; rfl, by (repeat (first | (with_reducible exact Below.refl _ _) | (with_reducible refine Ext.drewN ?_ _) | (with_reducible refine Below.drew ?_) | (with_reducible refine Ext.alloc ?_ _) | (with_reducible refine Ext.setCell ?_ (by simp; try omega) _) | (with_reducible refine Ext.trans ?_ (by assumption)) | (with_reducible assumption) | exact Below.refl _ _))⟩
      | true =>
        cases hn : newB L i c.s with
        | false =>
          have HN := Lib.hid (lib_bad HI.out (.inr hn))
          go_wp2_with (first | (go_at_call 157; refine (celVal_any c _ _ _ _ _ _ (i : Int) _ (HCh.out.ext (by (repeat (first | (with_reducible exact Below.refl _ _) | (with_reducible refine Ext.drewN ?_ _) | (with_reducible refine Below.drew ?_) | (with_reducible refine Ext.alloc ?_ _) | (with_reducible refine Ext.setCell ?_ (by simp; try omega) _) | (with_reducible refine Ext.trans ?_ (by assumption)) | (with_reducible assumption) | exact Below.refl _ _)))) (by omega) hs1 hs2 hs3 hs4 hs5 (HC.out.ext (by (repeat (first | (with_reducible exact Below.refl _ _) | (with_reducible refine Ext.drewN ?_ _) | (with_reducible refine Below.drew ?_) | (with_reducible refine Ext.alloc ?_ _) | (with_reducible refine Ext.setCell ?_ (by simp; try omega) _) | (with_reducible refine Ext.trans ?_ (by assumption)) | (with_reducible assumption) | exact Below.refl _ _))))).mono ?_; rintro e v1 ⟨rfl, bv1⟩; obtain ⟨sv1, zv1, cv1, fv1⟩ := bcell bv1; (try simp only [World.size_alloc, World.size_setCell, World.size_drew] at sv1); (try have nv1 : wr.heap.size < v1.heap.size := by omega); (try have nv2 : w.heap.size < v1.heap.size := by omega); rw [hp, vE_t]) | (go_at_call 158; refine (firstNamed_any _ L cap c.s _ hlen ((HL.out.below hW).mono hW.size |>.ext (by (repeat (first | (with_reducible exact Below.refl _ _) | (with_reducible refine Ext.drewN ?_ _) | (with_reducible refine Below.drew ?_) | (with_reducible refine Ext.alloc ?_ _) | (with_reducible refine Ext.setCell ?_ (by simp; try omega) _) | (with_reducible refine Ext.trans ?_ (by assumption)) | (with_reducible assumption) | exact Below.refl _ _))))).mono ?_; rintro e v2 ⟨⟨r, rfl, hr⟩, bv2⟩; have hrf := fst_f HI.out hr hn; clear hr) | (go_at_call 156; refine (require_f _).mono ?_; rintro e v3 ⟨rfl, rfl⟩))
          exact ⟨rfl, by rw [HN.out]; rfl, by (repeat (first | (with_reducible exact Below.refl _ _) | (with_reducible refine Ext.drewN ?_ _) | (with_reducible refine Below.drew ?_) | (with_reducible refine Ext.alloc ?_ _) | (with_reducible refine Ext.setCell ?_ (by simp; try omega) _) | (with_reducible refine Ext.trans ?_ (by assumption)) | (with_reducible assumption) | exact Below.refl _ _))⟩
        | true =>
          have HU1 : Hid (upB L (i + 1) = true) := Lib.hid (by rw [upB_succ, HU.out, atB_at HI.out, hp, hn]; rfl)
          go_wp2_with (first | (go_at_call 157; refine (celVal_any c _ _ _ _ _ _ (i : Int) _ (HCh.out.ext (by (repeat (first | (with_reducible exact Below.refl _ _) | (with_reducible refine Ext.drewN ?_ _) | (with_reducible refine Below.drew ?_) | (with_reducible refine Ext.alloc ?_ _) | (with_reducible refine Ext.setCell ?_ (by simp; try omega) _) | (with_reducible refine Ext.trans ?_ (by assumption)) | (with_reducible assumption) | exact Below.refl _ _)))) (by omega) hs1 hs2 hs3 hs4 hs5 (HC.out.ext (by (repeat (first | (with_reducible exact Below.refl _ _) | (with_reducible refine Ext.drewN ?_ _) | (with_reducible refine Below.drew ?_) | (with_reducible refine Ext.alloc ?_ _) | (with_reducible refine Ext.setCell ?_ (by simp; try omega) _) | (with_reducible refine Ext.trans ?_ (by assumption)) | (with_reducible assumption) | exact Below.refl _ _))))).mono ?_; rintro e v1 ⟨rfl, bv1⟩; obtain ⟨sv1, zv1, cv1, fv1⟩ := bcell bv1; (try simp only [World.size_alloc, World.size_setCell, World.size_drew] at sv1); (try have nv1 : wr.heap.size < v1.heap.size := by omega); (try have nv2 : w.heap.size < v1.heap.size := by omega); rw [hp, vE_t]) | (go_at_call 158; refine (firstNamed_any _ L cap c.s _ hlen ((HL.out.below hW).mono hW.size |>.ext (by (repeat (first | (with_reducible exact Below.refl _ _) | (with_reducible refine Ext.drewN ?_ _) | (with_reducible refine Below.drew ?_) | (with_reducible refine Ext.alloc ?_ _) | (with_reducible refine Ext.setCell ?_ (by simp; try omega) _) | (with_reducible refine Ext.trans ?_ (by assumption)) | (with_reducible assumption) | exact Below.refl _ _))))).mono ?_; rintro e v2 ⟨⟨r, rfl, hr⟩, bv2⟩; have hrt := fst_t HI.out hr hn; clear hr; subst hrt) | (go_at_call 156; refine (require_t _).mono ?_; rintro e v3 ⟨rfl, rfl⟩))
          go_roundw
          case rel => exact ⟨i + 1, by omega, by go_num, HU1, by (repeat (first | (with_reducible exact Below.refl _ _) | (with_reducible refine Ext.drewN ?_ _) | (with_reducible refine Below.drew ?_) | (with_reducible refine Ext.alloc ?_ _) | (with_reducible refine Ext.setCell ?_ (by simp; try omega) _) | (with_reducible refine Ext.trans ?_ (by assumption)) | (with_reducible assumption) | exact Below.refl _ _)), Lib.hid (HX.out.below (B := wr.heap.size) (by (repeat (first | (with_reducible exact Below.refl _ _) | (with_reducible refine Ext.drewN ?_ _) | (with_reducible refine Below.drew ?_) | (with_reducible refine Ext.alloc ?_ _) | (with_reducible refine Ext.setCell ?_ (by simp; try omega) _) | (with_reducible refine Ext.trans ?_ (by assumption)) | (with_reducible assumption) | exact Below.refl _ _))) (Nat.le_refl _))⟩
          case measure => simp [intOf]; omega
    · have r3 : ¬ ((i : Nat) : Int) < (L.length : Int) := by omega
      have HN : Hid (libB L = true) := Lib.hid (by unfold libB; rw [decide_eq_true ⟨h11, h12⟩, show L.length = i by omega, HU.out]; rfl)
      go_wp2_with fail
      go_end0
      exact ⟨by rw [HN.out]; rfl, by (repeat (first | (with_reducible exact Below.refl _ _) | (with_reducible refine Ext.drewN ?_ _) | (with_reducible refine Below.drew ?_) | (with_reducible refine Ext.alloc ?_ _) | (with_reducible refine Ext.setCell ?_ (by simp; try omega) _) | (with_reducible refine Ext.trans ?_ (by assumption)) | (with_reducible assumption) | exact Below.refl _ _))⟩
end Go.Proofs.YtciodcknobccdaaDoor
