/- UsersOf, by the model and by the program. Conditions: the cells' parts are in memory; impl.chip holds its value. -/
import Derived.Test.YtciodcknobccdaaDoorLcM
import Derived.Test.YtciodcknobccdaaDoorLcF
import Derived.Deep.Onto
namespace Go.Proofs.YtciodcknobccdaaDoor
open Go.RowKit
set_option linter.unusedVariables false
set_option linter.unusedSimpArgs false
attribute [local go_sem ↓] Go.wp_at_zero Go.wp_at_succ

theorem own_movedL {W W' : World} {base e sz n : Nat} {v : Value} {xs : List Value} (h : W.ownsRow base e sz v n xs) (hk : ∀ g, v.ownBlock = some g → W'.heap[g]? = W.heap[g]?) : W'.ownsRow base e sz v n xs := by
  refine ⟨h.1, ?_⟩
  rcases h.2 with h0 | ⟨g, cap, cur, rfl, h1, h2, h3⟩
  · exact .inl h0
  · exact .inr ⟨g, cap, cur, rfl, h1, (hk g rfl).trans h2, h3⟩
theorem own_belowL {W W' : World} {base e sz n B : Nat} {v : Value} {xs : List Value} (h : W.ownsRow base e sz v n xs) (hb : Below B W W') (hB : W.heap.size ≤ B) : W'.ownsRow base e sz v n xs :=
  own_movedL h fun g hg => hb.block g (Nat.lt_of_lt_of_le (h.lt g hg).2 hB)
def rowZ (xs : List Int) : List Value := xs.map (.int .i64)
theorem rowZ_snoc (xs : List Int) (z : Int) : rowZ (xs ++ [z]) = rowZ xs ++ [.int .i64 z] := by simp [rowZ]
/-- A list of numbers in a row of its own. -/
def IntsOwn (B : Nat) (w : World) (v : Value) (xs : List Int) : Prop := ∃ a c, v = .slice a xs.length c ∧ w.ownsRow B 2 1 (.slice a xs.length c) xs.length (rowZ xs)
def plF (L : List Cel) (i : Nat) (k : Int) : Bool := match L[i]? with | some c => plB c k | none => false
/-- The users of a cell among the first i cells. -/
def usF (L : List Cel) (k : Int) : Nat → List Int
  | 0 => []
  | i + 1 => if plF L i k = true then usF L k i ++ [(i : Int)] else usF L k i
theorem usF_len (L : List Cel) (k : Int) : ∀ i, (usF L k i).length ≤ i
  | 0 => Nat.le_refl _
  | i + 1 => by
    have := usF_len L k i
    unfold usF
    split
    · rw [List.length_append]; simp; omega
    · omega
theorem usF_t {L : List Cel} {k : Int} {i : Nat} {c : Cel} (h : L[i]? = some c) (hp : plB c k = true) : usF L k (i + 1) = usF L k i ++ [(i : Int)] := by
  have e : plF L i k = true := by unfold plF; rw [h]; exact hp
  show (if plF L i k = true then _ else _) = _
  rw [if_pos e]
theorem usF_f {L : List Cel} {k : Int} {i : Nat} {c : Cel} (h : L[i]? = some c) (hp : plB c k = false) : usF L k (i + 1) = usF L k i := by
  have e : ¬ plF L i k = true := by unfold plF; rw [h]; simp [hp]
  show (if plF L i k = true then _ else _) = _
  rw [if_neg e]
def usV (L : List Cel) (k : Int) : List Int := if hasC L k = true then usF L k L.length else []
theorem usV_no {L : List Cel} {k : Int} (h : hasC L k = false) : usV L k = [] := by unfold usV; rw [if_neg (by simp [h])]
theorem usV_yes {L : List Cel} {k : Int} (h : hasC L k = true) : usV L k = usF L k L.length := by unfold usV; rw [if_pos h]
set_option maxRecDepth 100000 in
set_option maxHeartbeats 8000000 in
theorem specUsersOf_any (a : Option Addr) (L : List Cel) (cap : Nat) (k : Int) (w : World) (hs : szCs L ≤ 1048576) (hL : CelsAt w.heap.size w a L) :
    Calls Tryd.prog 29 #[.agg #[.slice a L.length cap], .int .i64 k] w fun e w' => (∃ v, e = .returned v ∧ IntsOwn w.heap.size w' v (usV L k)) ∧ Below w.heap.size w w' := by
  have HL := Lib.hid hL
  have HZ := Lib.hid hs
  clear hL hs
  cases hp : hasC L k with
  | false =>
    have HN := Lib.hid (usV_no hp)
    go_enter Tryd.func29, Tryd.ntmps29
    go_wp2_with (first | (go_at_call 63; refine (l09Has_any a L cap k _ HZ.out (HL.out.ext (by (repeat (first | (with_reducible exact Below.refl _ _) | (with_reducible refine Ext.drewN ?_ _) | (with_reducible refine Below.drew ?_) | (with_reducible refine Ext.alloc ?_ _) | (with_reducible refine Ext.setCell ?_ (by simp; try omega) _) | (with_reducible refine Ext.trans ?_ (by assumption)) | (with_reducible assumption) | exact Below.refl _ _))))).mono ?_; rintro e v1 ⟨rfl, bv1⟩; rw [hp]))
    go_ret
    refine ⟨⟨_, rfl, ?_⟩, by (repeat (first | (with_reducible exact Below.refl _ _) | (with_reducible refine Ext.drewN ?_ _) | (with_reducible refine Below.drew ?_) | (with_reducible refine Ext.alloc ?_ _) | (with_reducible refine Ext.setCell ?_ (by simp; try omega) _) | (with_reducible refine Ext.trans ?_ (by assumption)) | (with_reducible assumption) | exact Below.refl _ _))⟩
    rw [HN.out]
    have hb := bv1.block (w.heap.size + 1) (by simp)
    exact ⟨some ⟨w.heap.size + 1, 0, none⟩, 0, rfl, by simp [rowZ], .inr ⟨w.heap.size + 1, _, _, rfl, by omega, hb.trans (by have := heap_alloc_new (w.alloc (.cells #[.slice a L.length cap] 26)) (.cells #[] 2); simpa using this), by simp, by unfold maxLen; simp, by simp, by simp [rowZ]⟩⟩
  | true =>
    have HN := Lib.hid (usV_yes hp)
    obtain ⟨hp1, hk0, hk1⟩ := hasC_yes hp
    have HP := Lib.hid hp1
    have hlen := lib_len hp1
    obtain ⟨hl1, hl2⟩ := hlen
    clear hp1
    obtain ⟨i0, hi, hz0, hz1, hz2⟩ := info_parts infoI64
    go_enter Tryd.func29, Tryd.ntmps29
    go_wp2_with (first | (go_at_call 63; refine (l09Has_any a L cap k _ HZ.out (HL.out.ext (by (repeat (first | (with_reducible exact Below.refl _ _) | (with_reducible refine Ext.drewN ?_ _) | (with_reducible refine Below.drew ?_) | (with_reducible refine Ext.alloc ?_ _) | (with_reducible refine Ext.setCell ?_ (by simp; try omega) _) | (with_reducible refine Ext.trans ?_ (by assumption)) | (with_reducible assumption) | exact Below.refl _ _))))).mono ?_; rintro e v1 ⟨rfl, bv1⟩; obtain ⟨sv1, zv1, cv1, fv1⟩ := bcell bv1; (try simp only [World.size_alloc, World.size_setCell, World.size_drew] at sv1); rw [hp]))
    obtain ⟨w1, hw1⟩ : ∃ w1, w1 = w.alloc (.cells #[.slice a L.length cap] 26) := ⟨_, rfl⟩
    have s1 : w1.heap.size = w.heap.size + 1 := by rw [hw1]; simp
    have y1 : w1.cell? ⟨w.heap.size, 0, none⟩ = some (.slice a L.length cap) := by rw [hw1]; simp [go_sem]
    have B1 := Lib.hid (show Below w.heap.size w w1 by rw [hw1]; exact (Below.refl _ _).alloc (Nat.le_refl _) _)
    have HW0 := Lib.hid (show Below w1.heap.size w1 v1 by rw [hw1]; (repeat (first | (with_reducible exact Below.refl _ _) | (with_reducible refine Ext.drewN ?_ _) | (with_reducible refine Below.drew ?_) | (with_reducible refine Ext.alloc ?_ _) | (with_reducible refine Ext.setCell ?_ (by simp; try omega) _) | (with_reducible refine Ext.trans ?_ (by assumption)) | (with_reducible assumption) | exact Below.refl _ _)))
    have hb := bv1.block (w.heap.size + 1) (by simp)
    have HO0 : Hid (v1.ownsRow w1.heap.size 2 1 (.slice (some ⟨w.heap.size + 1, 0, none⟩) 0 0) 0 (rowZ (usF L k 0))) := Lib.hid ⟨by simp [rowZ, usF], .inr ⟨w.heap.size + 1, _, _, rfl, by omega, hb.trans (by have := heap_alloc_new (w.alloc (.cells #[.slice a L.length cap] 26)) (.cells #[] 2); simpa using this), by simp, by unfold maxLen; simp, by simp, by simp [rowZ, usF]⟩⟩
    have HL1 := Lib.hid (HL.out.ext B1.out)
    have Y1 := Lib.hid y1
    have HS1 := Lib.hid s1
    clear bv1 sv1 zv1 cv1 fv1 hb hw1 y1 HL s1
    go_loopw [5, 6] (fun s5 s6 wr => ∃ (i n5 c5 : Nat) (a5 : Option Addr), i ≤ L.length ∧ s5 = .slice a5 n5 c5 ∧ s6 = .int .i64 (i : Nat) ∧ n5 ≤ i ∧ Hid (n5 = (usF L k i).length) ∧ Hid (Below w1.heap.size w1 wr) ∧ Hid (wr.ownsRow w1.heap.size 2 1 (.slice a5 n5 c5) n5 (rowZ (usF L k i)))) (fun _ s6 _ => L.length - (intOf s6).toNat)
    case atStart => exact ⟨0, 0, 0, _, by omega, rfl, rfl, by omega, Lib.hid rfl, HW0, HO0⟩
    case round =>
      clear HO0 HW0
      obtain ⟨i, n5, c5, a5, hik, rfl, rfl, hn5, HN5, HW, HO⟩ := hrel
      have yb := keepC HW.out Y1.out
      have hws := HW.out.size
      by_cases hlt : i < L.length
      · obtain ⟨c, hc⟩ := get_some hlt
        obtain ⟨b, off, a1, a2, a3, k1, k2, k3, rfl, hb, z0, z1, z2, z3, hC⟩ := HL1.out i c hc
        have c0 := keepC HW.out z0
        have c1 := keepC HW.out z1
        have c2 := keepC HW.out z2
        have c3 := keepC HW.out z3
        have HI := Lib.hid hc
        have HC := Lib.hid (hC.ext HW.out)
        have hd8 := (lib_lens HP.out hc).2.2.1
        have q1 : ((i : Nat) : Int) < (L.length : Int) := by omega
        have q0 : (0 : Int) ≤ ((i : Nat) : Int) := by omega
        have qw : IntKind.i64.wrap ((i : Nat) : Int) = ((i : Nat) : Int) := by rw [IntKind.wrap_i64]; omega
        clear hc hC z0 z1 z2 z3
        cases hpl : plB c k with
        | false =>
          have HF := Lib.hid (usF_f HI.out hpl)
          go_wp2_with (first | (go_at_call 66; refine (l09Uses_any c _ _ _ _ _ _ k _ (by omega) HC.out).mono ?_; rintro e v ⟨rfl, bv⟩; have HBV := Lib.hid bv; rw [hpl]))
          go_roundw
          case rel => exact ⟨i + 1, n5, c5, a5, by omega, rfl, by go_num, by omega, Lib.hid (by rw [HF.out]; exact HN5.out), Lib.hid (HW.out.trans (HBV.out.mono HW.out.size)), Lib.hid (by rw [HF.out]; exact own_belowL HO.out HBV.out (Nat.le_refl _))⟩
          case measure => simp [intOf]; omega
        | true =>
          have HF := Lib.hid (usF_t HI.out hpl)
          go_wp2_with (first | (go_at_call 66; refine (l09Uses_any c _ _ _ _ _ _ k _ (by omega) HC.out).mono ?_; rintro e v ⟨rfl, bv⟩; have HOV := Lib.hid (own_belowL HO.out bv (Nat.le_refl _)); have HWV := Lib.hid (HW.out.trans (bv.mono HW.out.size)); have hvs := HWV.out.size; clear bv; rw [hpl]) | (at_builtin; refine wpList_append_own_at _ rfl _ _ 29 rfl w1.heap.size 2 i0 (.int .i64 0) 1 8 Tryd.underlying29 hi hz0 hz1 hz2 rfl (by decide) _ _ _ rfl (HOV.out.alloc _) ⟨v.heap.size, 0, none⟩ 1 1 [.int .i64 (i : Int)] rfl rfl ?c1 ?c2 ?c3 ?c4 ?c5 ?_))
          all_goals try
            case c1 =>
              intro j u hj
              match j, hj with
              | 0, hj => simp at hj; subst hj; simp [Addr.add, go_sem]
          case c2 => first | rfl | (intro u hu; simp at hu; subst hu; rfl)
          case c3 => unfold maxLen; omega
          case c4 => omega
          case c5 => (try simp only [World.size_alloc]); omega
          intro v' wn hown' hgrow _ hat
          rw [← rowZ_snoc, ← HF.out] at hown'
          obtain ⟨a9, c9, rfl⟩ := own_slI hown'
          have HO6 := Lib.hid hown'
          have HB6 := Lib.hid (show Below w1.heap.size w1 wn from Below.grown (by have b := HWV.out; (repeat (first | (with_reducible exact Below.refl _ _) | (with_reducible refine Ext.drewN ?_ _) | (with_reducible refine Below.drew ?_) | (with_reducible refine Ext.alloc ?_ _) | (with_reducible refine Ext.setCell ?_ (by simp; try omega) _) | (with_reducible refine Ext.trans ?_ (by assumption)) | (with_reducible assumption) | exact Below.refl _ _))) hgrow (by simp; omega) (fun t ht => (HOV.out.lt t ht).1))
          have HN6 : Hid (n5 + 1 = (usF L k (i + 1)).length) := Lib.hid (by rw [HF.out, List.length_append, ← HN5.out]; rfl)
          clear hown' hgrow hat
          go_wp2_with fail
          go_roundw
          case rel => exact ⟨i + 1, n5 + 1, c9, a9, by omega, rfl, by go_num, by omega, HN6, HB6, HO6⟩
          case measure => simp [intOf]; omega
      · have q1 : ¬ ((i : Nat) : Int) < (L.length : Int) := by omega
        have HU : Hid (usV L k = usF L k i) := Lib.hid (by rw [HN.out, show L.length = i by omega])
        go_wp2_with fail
        go_ret
        refine ⟨⟨_, rfl, ?_⟩, Ext.trans B1.out HW.out⟩
        rw [HU.out]
        have e5 := HN5.out
        refine ⟨a5, c5, by rw [← e5]; rfl, ?_⟩
        rw [← e5]
        exact HO.out.mono (by have := HS1.out; omega)
set_option maxRecDepth 100000 in
set_option maxHeartbeats 8000000 in
theorem implUsersOf_any (a : Option Addr) (L : List Cel) (cap : Nat) (k : Int) (w : World) (hCh : ChipW w) (hs : szCs L ≤ 1048576) (hL : CelsAt w.heap.size w a L) :
    Calls Tryd.prog 13 #[.agg #[.slice a L.length cap], .int .i64 k] w fun e w' => (∃ v, e = .returned v ∧ IntsOwn w.heap.size w' v (usV L k)) ∧ Below w.heap.size w w' := by
  have HL := Lib.hid hL
  have HCh := Lib.hid hCh
  have HZ := Lib.hid hs
  clear hL hCh hs
  cases hp : hasC L k with
  | false =>
    have HN := Lib.hid (usV_no hp)
    go_enter Tryd.func13, Tryd.ntmps13
    go_wp2_with (first | (go_at_call 43; refine (hasCell_any a L cap k _ (HCh.out.ext (by (repeat (first | (with_reducible exact Below.refl _ _) | (with_reducible refine Ext.drewN ?_ _) | (with_reducible refine Below.drew ?_) | (with_reducible refine Ext.alloc ?_ _) | (with_reducible refine Ext.setCell ?_ (by simp; try omega) _) | (with_reducible refine Ext.trans ?_ (by assumption)) | (with_reducible assumption) | exact Below.refl _ _)))) HZ.out (HL.out.ext (by (repeat (first | (with_reducible exact Below.refl _ _) | (with_reducible refine Ext.drewN ?_ _) | (with_reducible refine Below.drew ?_) | (with_reducible refine Ext.alloc ?_ _) | (with_reducible refine Ext.setCell ?_ (by simp; try omega) _) | (with_reducible refine Ext.trans ?_ (by assumption)) | (with_reducible assumption) | exact Below.refl _ _))))).mono ?_; rintro e v1 ⟨rfl, bv1⟩; rw [hp]))
    go_ret
    refine ⟨⟨_, rfl, ?_⟩, by (repeat (first | (with_reducible exact Below.refl _ _) | (with_reducible refine Ext.drewN ?_ _) | (with_reducible refine Below.drew ?_) | (with_reducible refine Ext.alloc ?_ _) | (with_reducible refine Ext.setCell ?_ (by simp; try omega) _) | (with_reducible refine Ext.trans ?_ (by assumption)) | (with_reducible assumption) | exact Below.refl _ _))⟩
    rw [HN.out]
    exact ⟨none, 0, rfl, by simp [rowZ], .inl ⟨rfl, rfl⟩⟩
  | true =>
    have HN := Lib.hid (usV_yes hp)
    obtain ⟨hp1, hk0, hk1⟩ := hasC_yes hp
    have HP := Lib.hid hp1
    have hlen := lib_len hp1
    obtain ⟨hl1, hl2⟩ := hlen
    clear hp1
    obtain ⟨i0, hi, hz0, hz1, hz2⟩ := info_parts infoI64
    go_enter Tryd.func13, Tryd.ntmps13
    go_wp2_with (first | (go_at_call 43; refine (hasCell_any a L cap k _ (HCh.out.ext (by (repeat (first | (with_reducible exact Below.refl _ _) | (with_reducible refine Ext.drewN ?_ _) | (with_reducible refine Below.drew ?_) | (with_reducible refine Ext.alloc ?_ _) | (with_reducible refine Ext.setCell ?_ (by simp; try omega) _) | (with_reducible refine Ext.trans ?_ (by assumption)) | (with_reducible assumption) | exact Below.refl _ _)))) HZ.out (HL.out.ext (by (repeat (first | (with_reducible exact Below.refl _ _) | (with_reducible refine Ext.drewN ?_ _) | (with_reducible refine Below.drew ?_) | (with_reducible refine Ext.alloc ?_ _) | (with_reducible refine Ext.setCell ?_ (by simp; try omega) _) | (with_reducible refine Ext.trans ?_ (by assumption)) | (with_reducible assumption) | exact Below.refl _ _))))).mono ?_; rintro e v1 ⟨rfl, bv1⟩; obtain ⟨sv1, zv1, cv1, fv1⟩ := bcell bv1; (try simp only [World.size_alloc, World.size_setCell, World.size_drew] at sv1); rw [hp]))
    have W1 := Lib.hid (show Below w.heap.size w v1 by (repeat (first | (with_reducible exact Below.refl _ _) | (with_reducible refine Ext.drewN ?_ _) | (with_reducible refine Below.drew ?_) | (with_reducible refine Ext.alloc ?_ _) | (with_reducible refine Ext.setCell ?_ (by simp; try omega) _) | (with_reducible refine Ext.trans ?_ (by assumption)) | (with_reducible assumption) | exact Below.refl _ _)))
    have HL1 := Lib.hid (HL.out.ext W1.out)
    have HO0 : Hid (v1.ownsRow v1.heap.size 2 1 (.slice none 0 0) 0 (rowZ (usF L k 0))) := Lib.hid ⟨by simp [rowZ, usF], .inl ⟨rfl, rfl⟩⟩
    clear bv1 sv1 zv1 cv1 fv1 HL
    go_loopw [5, 15] (fun s5 s6 wr => ∃ (i n5 c5 : Nat) (a5 : Option Addr), i ≤ L.length ∧ s5 = .slice a5 n5 c5 ∧ s6 = .int .i64 (i : Nat) ∧ n5 ≤ i ∧ Hid (n5 = (usF L k i).length) ∧ Hid (Below v1.heap.size v1 wr) ∧ Hid (wr.ownsRow v1.heap.size 2 1 (.slice a5 n5 c5) n5 (rowZ (usF L k i)))) (fun _ s6 _ => L.length - (intOf s6).toNat)
    case atStart => exact ⟨0, 0, 0, _, by omega, rfl, rfl, by omega, Lib.hid rfl, Lib.hid (Below.refl _ _), HO0⟩
    case round =>
      clear HO0
      obtain ⟨i, n5, c5, a5, hik, rfl, rfl, hn5, HN5, HW, HO⟩ := hrel
      have hws := HW.out.size
      by_cases hlt : i < L.length
      · obtain ⟨c, hc⟩ := get_some hlt
        obtain ⟨b, off, a1, a2, a3, k1, k2, k3, rfl, hb, z0, z1, z2, z3, hC⟩ := HL1.out i c hc
        have c0 := keepC HW.out z0
        have c1 := keepC HW.out z1
        have c2 := keepC HW.out z2
        have c3 := keepC HW.out z3
        have HI := Lib.hid hc
        have HC := Lib.hid (hC.ext HW.out)
        have hd8 := (lib_lens HP.out hc).2.2.1
        have q1 : ((i : Nat) : Int) < (L.length : Int) := by omega
        have q0 : (0 : Int) ≤ ((i : Nat) : Int) := by omega
        have qw : IntKind.i64.wrap ((i : Nat) : Int) = ((i : Nat) : Int) := by rw [IntKind.wrap_i64]; omega
        clear hc hC z0 z1 z2 z3
        cases hpl : plB c k with
        | false =>
          have HF := Lib.hid (usF_f HI.out hpl)
          go_wp2_with (first | (go_at_call 44; refine (places_any c _ _ _ _ _ _ k _ (by omega) (HC.out.ext (by (repeat (first | (with_reducible exact Below.refl _ _) | (with_reducible refine Ext.drewN ?_ _) | (with_reducible refine Below.drew ?_) | (with_reducible refine Ext.alloc ?_ _) | (with_reducible refine Ext.setCell ?_ (by simp; try omega) _) | (with_reducible refine Ext.trans ?_ (by assumption)) | (with_reducible assumption) | exact Below.refl _ _))))).mono ?_; rintro e v ⟨rfl, bv⟩; have HBV := Lib.hid (show Below wr.heap.size wr v by (repeat (first | (with_reducible exact Below.refl _ _) | (with_reducible refine Ext.drewN ?_ _) | (with_reducible refine Below.drew ?_) | (with_reducible refine Ext.alloc ?_ _) | (with_reducible refine Ext.setCell ?_ (by simp; try omega) _) | (with_reducible refine Ext.trans ?_ (by assumption)) | (with_reducible assumption) | exact Below.refl _ _))); rw [hpl]))
          go_roundw
          case rel => exact ⟨i + 1, n5, c5, a5, by omega, rfl, by go_num, by omega, Lib.hid (by rw [HF.out]; exact HN5.out), Lib.hid (HW.out.trans (HBV.out.mono HW.out.size)), Lib.hid (by rw [HF.out]; exact own_belowL HO.out HBV.out (Nat.le_refl _))⟩
          case measure => simp [intOf]; omega
        | true =>
          have HF := Lib.hid (usF_t HI.out hpl)
          go_wp2_with (first | (go_at_call 44; refine (places_any c _ _ _ _ _ _ k _ (by omega) (HC.out.ext (by (repeat (first | (with_reducible exact Below.refl _ _) | (with_reducible refine Ext.drewN ?_ _) | (with_reducible refine Below.drew ?_) | (with_reducible refine Ext.alloc ?_ _) | (with_reducible refine Ext.setCell ?_ (by simp; try omega) _) | (with_reducible refine Ext.trans ?_ (by assumption)) | (with_reducible assumption) | exact Below.refl _ _))))).mono ?_; rintro e v ⟨rfl, bv⟩; have HBV := Lib.hid (show Below wr.heap.size wr v by (repeat (first | (with_reducible exact Below.refl _ _) | (with_reducible refine Ext.drewN ?_ _) | (with_reducible refine Below.drew ?_) | (with_reducible refine Ext.alloc ?_ _) | (with_reducible refine Ext.setCell ?_ (by simp; try omega) _) | (with_reducible refine Ext.trans ?_ (by assumption)) | (with_reducible assumption) | exact Below.refl _ _))); have HOV := Lib.hid (own_belowL HO.out HBV.out (Nat.le_refl _)); have HWV := Lib.hid (HW.out.trans (HBV.out.mono HW.out.size)); have hvs := HWV.out.size; clear bv; rw [hpl]) | (at_builtin; refine wpList_append_own_at _ rfl _ _ 29 rfl v1.heap.size 2 i0 (.int .i64 0) 1 8 Tryd.underlying29 hi hz0 hz1 hz2 rfl (by decide) _ _ _ rfl (HOV.out.alloc _) ⟨v.heap.size, 0, none⟩ 1 1 [.int .i64 (i : Int)] rfl rfl ?c1 ?c2 ?c3 ?c4 ?c5 ?_))
          all_goals try
            case c1 =>
              intro j u hj
              match j, hj with
              | 0, hj => simp at hj; subst hj; simp [Addr.add, go_sem]
          case c2 => first | rfl | (intro u hu; simp at hu; subst hu; rfl)
          case c3 => unfold maxLen; omega
          case c4 => omega
          case c5 => (try simp only [World.size_alloc]); omega
          intro v' wn hown' hgrow _ hat
          rw [← rowZ_snoc, ← HF.out] at hown'
          obtain ⟨a9, c9, rfl⟩ := own_slI hown'
          have HO6 := Lib.hid hown'
          have HB6 := Lib.hid (show Below v1.heap.size v1 wn from Below.grown (by have b := HWV.out; (repeat (first | (with_reducible exact Below.refl _ _) | (with_reducible refine Ext.drewN ?_ _) | (with_reducible refine Below.drew ?_) | (with_reducible refine Ext.alloc ?_ _) | (with_reducible refine Ext.setCell ?_ (by simp; try omega) _) | (with_reducible refine Ext.trans ?_ (by assumption)) | (with_reducible assumption) | exact Below.refl _ _))) hgrow (by simp; omega) (fun t ht => (HOV.out.lt t ht).1))
          have HN6 : Hid (n5 + 1 = (usF L k (i + 1)).length) := Lib.hid (by rw [HF.out, List.length_append, ← HN5.out]; rfl)
          clear hown' hgrow hat
          go_wp2_with fail
          go_roundw
          case rel => exact ⟨i + 1, n5 + 1, c9, a9, by omega, rfl, by go_num, by omega, HN6, HB6, HO6⟩
          case measure => simp [intOf]; omega
      · have q1 : ¬ ((i : Nat) : Int) < (L.length : Int) := by omega
        have HU : Hid (usV L k = usF L k i) := Lib.hid (by rw [HN.out, show L.length = i by omega])
        go_wp2_with fail
        go_ret
        refine ⟨⟨_, rfl, ?_⟩, Ext.trans W1.out HW.out⟩
        rw [HU.out]
        have e5 := HN5.out
        refine ⟨a5, c5, by rw [← e5]; rfl, ?_⟩
        rw [← e5]
        exact HO.out.mono (W1.out.size)
end Go.Proofs.YtciodcknobccdaaDoor
