/- The laws' marks of labels, cells and libraries. Condition: the rows may be written. -/
import Derived.Test.YtciodcknobccdaaDoorLcP
namespace Go.Proofs.YtciodcknobccdaaDoor
open Go.RowKit
set_option linter.unusedVariables false
set_option linter.unusedSimpArgs false
attribute [local go_sem ↓] Go.wp_at_zero Go.wp_at_succ

set_option maxRecDepth 100000 in
set_option maxHeartbeats 8000000 in
theorem markLabelS_any (a : Option Addr) (n c : Nat) (k : Int) (lo hi : Nat) (w : World) (hn : n ≤ 1048576) (k0 : 0 ≤ k) (k1 : k + 4 * (n : Int) ≤ 50000000) (hr : n = 0 ∨ ∃ g, a = some ⟨g, 0, none⟩ ∧ lo ≤ g ∧ g < hi ∧ ∀ o, o < n * 4 → NsAt w ⟨g, o, none⟩) :
    Calls Tryd.prog 99 #[.slice a n c, .int .i64 k] w fun e w' => e = .returned (.int .i64 (k + 4 * (n : Int))) ∧ St lo hi w w' := by
  have HRR := Lib.hid hr
  clear hr
  go_enter Tryd.func99, Tryd.ntmps99
  go_wp2_with fail
  go_loopw [1, 5] (fun s t wr => ∃ (i : Nat) (u : Int), i ≤ n ∧ t = .int .i64 (i : Nat) ∧ s = .int .i64 u ∧ Hid (u = k + 4 * (i : Int)) ∧ Hid (St lo hi w wr)) (fun _ t _ => n - (intOf t).toNat)
  case atStart => exact ⟨0, k, by omega, rfl, rfl, Lib.hid (by omega), Lib.hid (St.refl _ _ _)⟩
  case round =>
    obtain ⟨i, u, hi2, rfl, rfl, HU, HS⟩ := hrel
    by_cases hlt : i < n
    · obtain ⟨g, rfl, hlo, hhi, hr⟩ := HRR.out.resolve_left (by omega)
      have HR := Lib.hid hr
      clear hr
      have q1 : (i : Int) < (n : Int) := by omega
      have q0 : (0 : Int) ≤ (i : Int) := by omega
      have v0 : 0 ≤ u := by have := HU.out; omega
      have v1 : u ≤ 50000000 := by have := HU.out; omega
      have e0 := HS.out.ns _ (HR.out (i * 4) (by omega))
      obtain ⟨⟨x0, c0, -⟩, f0⟩ := e0
      have e1 := HS.out.ns _ (HR.out (i * 4 + 1) (by omega))
      obtain ⟨⟨x1, c1, -⟩, f1⟩ := e1
      have e2 := HS.out.ns _ (HR.out (i * 4 + 2) (by omega))
      obtain ⟨⟨x2, c2, -⟩, f2⟩ := e2
      have e3 := HS.out.ns _ (HR.out (i * 4 + 3) (by omega))
      obtain ⟨⟨x3, c3, -⟩, f3⟩ := e3
      have lg : g < wr.heap.size := World.block_lt_of_cell? wr _ c3
      go_wp2_with fail
      refine (markText_any _ _ (by omega) (by omega)).mono ?_
      rintro e v2 ⟨⟨t2, rfl⟩, bv2⟩
      have d3 : v2.cell? ⟨g, i * 4 + 3, none⟩ = some x3 := keepC bv2 (by simp [go_sem, c3])
      have g3 : v2.frozen? ⟨g, i * 4 + 3, none⟩ = false := (bv2.frozen (p := ⟨g, i * 4 + 3, none⟩) (by simp; exact lg)).trans (by simp [go_sem, f3])
      have BV2 := Lib.hid bv2
      clear bv2 c0 c1 c2 c3 f0 f1 f2 f3
      go_wp2_with fail
      go_roundw
      case rel => exact ⟨i + 1, u + 4, by omega, by go_num, by first | rfl | (simp; omega), Lib.hid (by have := HU.out; omega), Lib.hid (((((HS.out.put (HR.out (i * 4) (by omega)) hlo hhi (nsI _)).put (HR.out (i * 4 + 1) (by omega)) hlo hhi (nsI _)).put (HR.out (i * 4 + 2) (by omega)) hlo hhi (nsI _)).then BV2.out).put (HR.out (i * 4 + 3) (by omega)) hlo hhi (nsS _))⟩
      case measure => simp [intOf]; omega
    · have q1 : ¬ (i : Int) < (n : Int) := by omega
      have HE : Hid (u = k + 4 * (n : Int)) := Lib.hid (by have := HU.out; rw [this, show i = n by omega])
      go_wp2_with fail
      go_ret
      exact ⟨by rw [← HE.out]; rfl, HS.out⟩
/-- Cells whose rows may be written: what the marks of cells ask. -/
structure MarkOK (lo hi : Nat) (w : World) (h : Nat) (L : List Cel) (g1 g2 g3 : Nat → Nat) : Prop where
  h1 : lo ≤ h
  h2 : h < hi
  nm : ∀ k, k < L.length → NsAt w ⟨h, k * 4, none⟩
  cell : ∀ k c, L[k]? = some c → w.cell? ⟨h, k * 4 + 1, none⟩ = some (.slice (some ⟨g1 k, 0, none⟩) c.a.length c.a.length) ∧ w.cell? ⟨h, k * 4 + 2, none⟩ = some (.slice (some ⟨g2 k, 0, none⟩) c.b.length c.b.length) ∧ w.cell? ⟨h, k * 4 + 3, none⟩ = some (.slice (some ⟨g3 k, 0, none⟩) c.d.length c.d.length)
  row : ∀ k c, L[k]? = some c → (lo ≤ g1 k ∧ g1 k < hi ∧ ∀ o, o < c.a.length * 5 → NsAt w ⟨g1 k, o, none⟩) ∧ (lo ≤ g2 k ∧ g2 k < hi ∧ ∀ o, o < c.b.length * 4 → NsAt w ⟨g2 k, o, none⟩) ∧ (lo ≤ g3 k ∧ g3 k < hi ∧ ∀ o, o < c.d.length * 8 → NsAt w ⟨g3 k, o, none⟩)
theorem MarkOK.step {lo hi h : Nat} {w w' : World} {L : List Cel} {g1 g2 g3 : Nat → Nat} (m : MarkOK lo hi w h L g1 g2 g3) (s : St lo hi w w') : MarkOK lo hi w' h L g1 g2 g3 :=
  ⟨m.h1, m.h2, fun k hk => s.ns _ (m.nm k hk), fun k c hc => ⟨s.sl _ _ _ _ (m.cell k c hc).1, s.sl _ _ _ _ (m.cell k c hc).2.1, s.sl _ _ _ _ (m.cell k c hc).2.2⟩, fun k c hc => by
    obtain ⟨⟨a1, a2, a3⟩, ⟨b1, b2, b3⟩, d1, d2, d3⟩ := m.row k c hc
    exact ⟨⟨a1, a2, fun o ho => s.ns _ (a3 o ho)⟩, ⟨b1, b2, fun o ho => s.ns _ (b3 o ho)⟩, d1, d2, fun o ho => s.ns _ (d3 o ho)⟩⟩
/-- The marks of a cell's parts. -/
def mkN (c : Cel) : Nat := 1 + 5 * c.a.length + 4 * c.b.length + 8 * c.d.length
theorem mkN_le (c : Cel) : mkN c ≤ 1 + 8 * c.sz := by
  have h : c.sz = c.s.size + c.a.length + (c.b.length + suF Lbl.sz c.b c.b.length) + c.d.length := rfl
  unfold mkN
  omega
theorem mk_sum (L : List Cel) : ∀ i, i ≤ L.length → suF mkN L i ≤ i + 8 * suF Cel.sz L i := by
  intro i
  induction i with
  | zero => intro _; rw [suF_zero]; omega
  | succ i ih =>
    intro hi
    obtain ⟨c, hc⟩ := get_some (l := L) (i := i) (by omega)
    have h1 := ih (by omega)
    have h2 := mkN_le c
    rw [suF_succ hc, suF_succ hc]
    omega
theorem mk_all {L : List Cel} (h : szCs L ≤ 1048576) {i : Nat} (hi : i ≤ L.length) : suF mkN L i ≤ 9437184 := by
  have h1 := mk_sum L i hi
  have h2 := suF_mono Cel.sz L hi
  unfold szCs at h
  omega
set_option maxRecDepth 100000 in
set_option maxHeartbeats 8000000 in
theorem markCellS_any (L : List Cel) (c h lo hi : Nat) (g1 g2 g3 : Nat → Nat) (w : World) (hs : szCs L ≤ 1048576) (hM : MarkOK lo hi w h L g1 g2 g3) :
    Calls Tryd.prog 67 #[.slice (some ⟨h, 0, none⟩) L.length c, .int .i64 1] w fun e w' => (∃ r : Int, e = .returned (.int .i64 r) ∧ 0 ≤ r) ∧ St lo hi w w' := by
  have HM0 := Lib.hid hM
  have HZ := Lib.hid hs
  have hlen := sz_len hs
  clear hM hs
  go_enter Tryd.func67, Tryd.ntmps67
  go_wp2_with fail
  go_loopw [1, 5] (fun s t wr => ∃ (i : Nat) (u : Int), i ≤ L.length ∧ t = .int .i64 (i : Nat) ∧ s = .int .i64 u ∧ Hid (u = 1 + (suF mkN L i : Nat)) ∧ Hid (St lo hi w wr)) (fun _ t _ => L.length - (intOf t).toNat)
  case atStart => exact ⟨0, 1, by omega, rfl, rfl, Lib.hid (by rw [suF_zero]; rfl), Lib.hid (St.refl _ _ _)⟩
  case round =>
    obtain ⟨i, u, hi2, rfl, rfl, HU, HS⟩ := hrel
    by_cases hlt : i < L.length
    · obtain ⟨d, hd⟩ := get_some hlt
      have HM := Lib.hid (HM0.out.step HS.out)
      obtain ⟨⟨x0, c0, -⟩, f0⟩ := HM.out.nm i hlt
      obtain ⟨c1, c2, c3⟩ := HM.out.cell i d hd
      have q1 : (i : Int) < (L.length : Int) := by omega
      have q0 : (0 : Int) ≤ (i : Int) := by omega
      have hsu := suF_succ (f := mkN) hd
      have hal := mk_all HZ.out (show i + 1 ≤ L.length by omega)
      have hmk : mkN d = 1 + 5 * d.a.length + 4 * d.b.length + 8 * d.d.length := rfl
      have v0 : 0 ≤ u := by have := HU.out; omega
      have v1 : u + 1 + 5 * (d.a.length : Int) + 4 * (d.b.length : Int) + 8 * (d.d.length : Int) ≤ 9437185 := by have := HU.out; omega
      obtain ⟨hs1, hs2, hs3, hs4, hs5⟩ := sz_at HZ.out hd
      have HU1 : Hid (u + 1 + 5 * (d.a.length : Int) + 4 * (d.b.length : Int) + 8 * (d.d.length : Int) = 1 + (suF mkN L (i + 1) : Nat)) := Lib.hid (by have := HU.out; omega)
      have lh : h < wr.heap.size := World.block_lt_of_cell? wr _ c0
      have HD := Lib.hid hd
      have HNM := Lib.hid (HM.out.nm i hlt)
      clear hd hsu hal hmk hs1 hs5
      go_wp2_with fail
      refine (markText_any _ _ (by omega) (by omega)).mono ?_
      rintro e v2 ⟨⟨t2, rfl⟩, bv2⟩
      have d0 : v2.cell? ⟨h, i * 4, none⟩ = some x0 := keepC bv2 c0
      have d1 := keepC bv2 c1
      have d2 := keepC bv2 c2
      have d3 := keepC bv2 c3
      have g0 : v2.frozen? ⟨h, i * 4, none⟩ = false := (bv2.frozen (p := ⟨h, i * 4, none⟩) lh).trans f0
      have S2 := Lib.hid (((St.refl lo hi wr).then bv2).put HNM.out HM.out.h1 HM.out.h2 (nsS t2))
      clear bv2 c0 c1 c2 c3 f0
      go_wp2_with fail
      have M2 := Lib.hid (HM.out.step S2.out)
      refine (markShapeS_any _ d.a.length _ _ lo hi _ hs2 (by omega) (by omega) (.inr ⟨_, rfl, (M2.out.row i d HD.out).1⟩)).mono ?_
      rintro e v3 ⟨rfl, sv3⟩
      have S3 := Lib.hid (S2.out.trans sv3)
      have M3 := Lib.hid (M2.out.step sv3)
      obtain ⟨b1, b2, b3⟩ := M3.out.cell i d HD.out
      clear sv3 d0 d1 d2 d3 g0
      go_wp2_with fail
      refine (markLabelS_any _ d.b.length _ _ lo hi _ hs3 (by omega) (by omega) (.inr ⟨_, rfl, (M3.out.row i d HD.out).2.1⟩)).mono ?_
      rintro e v4 ⟨rfl, sv4⟩
      have S4 := Lib.hid (S3.out.trans sv4)
      have M4 := Lib.hid (M3.out.step sv4)
      clear sv4 b1 b2 b3
      obtain ⟨b1, b2, b3⟩ := M4.out.cell i d HD.out
      go_wp2_with fail
      refine (markInstanceS_any _ d.d.length _ _ lo hi _ hs4 (by omega) (by omega) (.inr ⟨_, rfl, (M4.out.row i d HD.out).2.2⟩)).mono ?_
      rintro e v5 ⟨rfl, sv5⟩
      have S5 := Lib.hid (HS.out.trans (S4.out.trans sv5))
      clear sv5 b1 b2 b3
      go_wp2_with fail
      go_roundw
      case rel => exact ⟨i + 1, _, by omega, by go_num, rfl, HU1, S5⟩
      case measure => simp [intOf]; omega
    · have q1 : ¬ (i : Int) < (L.length : Int) := by omega
      have HE : Hid (0 ≤ u) := Lib.hid (by have := HU.out; omega)
      go_wp2_with fail
      go_ret
      exact ⟨⟨u, rfl, HE.out⟩, HS.out⟩
theorem markLibrary_any (L : List Cel) (c h lo hi : Nat) (g1 g2 g3 : Nat → Nat) (w : World) (hs : szCs L ≤ 1048576) (hhi : hi ≤ w.heap.size) (hM : MarkOK lo hi w h L g1 g2 g3) :
    Calls Tryd.prog 31 #[.agg #[.slice (some ⟨h, 0, none⟩) L.length c], .int .i64 1] w fun e w' => (∃ r : Int, e = .returned (.int .i64 r) ∧ 0 ≤ r) ∧ St lo hi w w' := by
  have HM0 := Lib.hid hM
  clear hM
  go_enter Tryd.func31, Tryd.ntmps31
  go_wp2_with fail
  have S0 := Lib.hid (St.grown (lo := lo) (hi := hi) ((Below.refl _ _).alloc (Nat.le_refl _) (.cells #[.slice (some ⟨h, 0, none⟩) L.length c] 26) : Below w.heap.size w (w.alloc (.cells #[.slice (some ⟨h, 0, none⟩) L.length c] 26))))
  refine (markCellS_any L _ h lo hi g1 g2 g3 _ hs (HM0.out.step S0.out)).mono ?_
  rintro e v1 ⟨⟨r, rfl, hr⟩, sv1⟩
  have HR := Lib.hid hr
  have S1 := Lib.hid (S0.out.trans sv1)
  clear hr sv1
  go_wp2_with fail
  go_ret
  exact ⟨⟨r, rfl, HR.out⟩, S1.out⟩
theorem LibOwn.marks {B h : Nat} {w : World} {L : List Cel} {g1 g2 g3 : Nat → Nat} (o : LibOwn B w h L L.length g1 g2 g3) : MarkOK B w.heap.size w h L g1 g2 g3 := by
  have hl := o.low
  refine ⟨o.low, o.lt, fun k hk => ?_, fun k c hc => (o.cell k c (get_lt hc) hc).2, fun k c hc => ?_⟩
  · obtain ⟨c, hc⟩ := get_some hk
    exact ⟨⟨_, (o.cell k c hk hc).1, nsS _⟩, (o.room (k * 4) (by omega)).2⟩
  · obtain ⟨⟨r0, r1, r2, r3⟩, f1, f2, f3⟩ := o.row k c (get_lt hc) hc
    have key : ∀ {α : Type} {n : Nat} {cs : α → List Value} {g : Nat} {l : List α}, 0 < n → (∀ s, (cs s).length = n) → (∀ s v, v ∈ cs s → notSl v) → FillAt n cs w g l l.length → ∀ q, q < l.length * n → NsAt w ⟨g, q, none⟩ := by
      intro α n cs g l hn hcs hns hf q hq
      have hi : q / n < l.length := by rw [Nat.div_lt_iff_lt_mul hn]; exact hq
      obtain ⟨s, hs⟩ := get_some hi
      have hm : q % n < (cs s).length := by rw [hcs]; exact Nat.mod_lt _ hn
      have h1 := hf.1 (q / n) s hi hs (q % n) _ (List.getElem?_eq_getElem hm)
      rw [Nat.mul_comm, Nat.div_add_mod] at h1
      exact ⟨⟨_, h1, hns s _ (List.getElem_mem hm)⟩, (hf.2 q hq).2⟩
    refine ⟨⟨by omega, by omega, key (by decide) (fun _ => rfl) ?_ f1⟩, ⟨by omega, by omega, key (by decide) (fun _ => rfl) ?_ f2⟩, by omega, by omega, key (by decide) (fun _ => rfl) ?_ f3⟩
    · intro s v hv
      simp only [Shp.cs, List.mem_cons, List.not_mem_nil, or_false] at hv
      rcases hv with rfl | rfl | rfl | rfl | rfl <;> exact nsI _
    · intro s v hv
      simp only [Lbl.cs, List.mem_cons, List.not_mem_nil, or_false] at hv
      rcases hv with rfl | rfl | rfl | rfl
      · exact nsI _
      · exact nsI _
      · exact nsI _
      · exact nsS _
    · intro s v hv
      simp only [Ins.cs, List.mem_cons, List.not_mem_nil, or_false] at hv
      rcases hv with rfl | rfl | rfl | rfl | rfl | rfl | rfl | rfl <;> exact nsI _
end Go.Proofs.YtciodcknobccdaaDoor
