/- The model's components and holes, as lists of regions. Conditions: the rectangles' cells are in memory. -/
import Derived.Test.YtepfnnhmplaocaaDoorCpC
import Derived.Test.YtepfnnhmplaocaaDoorQD
import Derived.Test.YtepfnnhmplaocaaDoorQV
namespace Go.Proofs.YtepfnnhmplaocaaDoor
open Go.RowKit
set_option linter.unusedVariables false
set_option linter.unusedSimpArgs false
attribute [local go_sem ↓] Go.wp_at_zero Go.wp_at_succ

theorem infoSR : (Tryd.prog.info? 26).map (fun i => (i.zero, i.size, i.bytes)) = some (some (.slice none 0 0), 1, 24) := by kernel_rfl
/-- The values V are the lists LL. -/
def LsAt (w : World) (V : List Value) (LL : List (List R4)) : Prop := V.length = LL.length ∧ ∀ (i : Nat) (v : Value) (l : List R4), V[i]? = some v → LL[i]? = some l → ∃ a c, v = .slice a l.length c ∧ l.length ≤ 3280 ∧ RectsL w.heap.size w a l
theorem LsAt.nil (w : World) : LsAt w [] [] := ⟨rfl, fun i v l h => by simp at h⟩
theorem LsAt.below {w w' : World} {V : List Value} {LL : List (List R4)} (h : LsAt w V LL) (hb : Below w.heap.size w w') : LsAt w' V LL := ⟨h.1, fun i v l h1 h2 => by
  obtain ⟨a, c, e, hl, hr⟩ := h.2 i v l h1 h2
  exact ⟨a, c, e, hl, RectsIs.ext hr hb⟩⟩
theorem LsAt.snoc {w : World} {V : List Value} {LL : List (List R4)} (h : LsAt w V LL) {a : Option Addr} {c : Nat} {l : List R4} (hl : l.length ≤ 3280) (hr : RectsL w.heap.size w a l) : LsAt w (V ++ [.slice a l.length c]) (LL ++ [l]) := by
  refine ⟨by simp [h.1], fun i v l' h1 h2 => ?_⟩
  by_cases hi : i < V.length
  · rw [List.getElem?_append_left hi] at h1
    rw [List.getElem?_append_left (by rw [← h.1]; exact hi)] at h2
    exact h.2 i v l' h1 h2
  · have hg := (List.getElem?_eq_some_iff.1 h1).1
    rw [List.length_append, List.length_singleton] at hg
    obtain rfl : i = V.length := by omega
    rw [List.getElem?_append_right (Nat.le_refl _)] at h1
    rw [h.1, List.getElem?_append_right (Nat.le_refl _)] at h2
    simp at h1 h2
    subst h1 h2
    exact ⟨a, c, rfl, hl, hr⟩
theorem LsAt.grown {w w' : World} {V : List Value} {LL : List (List R4)} (h : LsAt w V LL) {row : Option Nat} (hg : w.grownBy w' row) (hne : ∀ v, v ∈ V → ∀ b, v.ownBlock = some b → some b ≠ row) : LsAt w' V LL := ⟨h.1, fun i v l h1 h2 => by
  obtain ⟨a, c, e, hl, hr⟩ := h.2 i v l h1 h2
  refine ⟨a, c, e, hl, fun j hj => ?_⟩
  obtain ⟨b, off, k1, k2, k3, k4, k5, k6⟩ := hr j hj
  have hb : some b ≠ row := hne v (List.mem_of_getElem? h1) b (by rw [e, k1]; rfl)
  exact ⟨b, off, k1, Nat.lt_of_lt_of_le k2 hg.size, hg.cell k3 hb, hg.cell k4 hb, hg.cell k5 hb, hg.cell k6 hb⟩⟩
theorem LsAt.blk {w : World} {V : List Value} {LL : List (List R4)} (h : LsAt w V LL) {i : Nat} {v : Value} {l : List R4} (h1 : V[i]? = some v) (h2 : LL[i]? = some l) (hl : 0 < l.length) {b : Nat} (hb : v.ownBlock = some b) : b < w.heap.size := by
  obtain ⟨a, c, e, _, hr⟩ := h.2 i v l h1 h2
  obtain ⟨b', off, k1, k2, _⟩ := hr 0 hl
  rw [e, k1] at hb
  have : b' = b := by simpa [Value.ownBlock] using hb
  omega
/-- A call that hands back a list of lists. -/
def LsRes (LL : List (List R4)) (e : Ending) (w : World) : Prop := ∃ m c V, e = .returned (.slice m LL.length c) ∧ LsAt w V LL ∧ ∀ (i : Nat) (v : Value), V[i]? = some v → ∃ b, m = some ⟨b, 0, none⟩ ∧ b < w.heap.size ∧ w.cell? ⟨b, i, none⟩ = some v
theorem LsRes.nil {e : Ending} {w : World} (h : e = .returned (.slice none 0 0)) : LsRes [] e w := ⟨none, 0, [], h, LsAt.nil _, fun i v h => by simp at h⟩
/-- The regions of the parts of a set. -/
noncomputable def cmpL (f : Nat → Bool) (wide : Bool) : List (List R4) := (startsTo f wide 6400).map fun s => canonL (partF f wide (cxN s) (cyN s))
theorem cmpL_len (f : Nat → Bool) (wide : Bool) : (cmpL f wide).length ≤ 6400 := by unfold cmpL; rw [List.length_map]; exact startsTo_len f wide 6400
theorem row_next {W : World} {B E : Nat} {v : Value} {n : Nat} {V : List Value} (h : W.ownsRow B E 1 v (n + 1) V) :
    ∃ b cap, v = .slice (some ⟨b, 0, none⟩) (n + 1) cap ∧ W.ownsRow B E 1 (.slice (some ⟨b, 0, none⟩) (n + 1) cap) (n + 1) V := by
  rcases h.2 with ⟨_, h0⟩ | ⟨b, cap, cur, rfl, _⟩
  · omega
  · exact ⟨b, cap, rfl, h⟩
theorem row_cells {W : World} {B E : Nat} {b n cap : Nat} {V : List Value} (h : W.ownsRow B E 1 (.slice (some ⟨b, 0, none⟩) n cap) n V) : ∀ (i : Nat) (v : Value), V[i]? = some v → W.cell? ⟨b, i, none⟩ = some v := fun i v hv => by
  have := h.cells (g := b) rfl i v hv
  rwa [addG] at this

set_option maxHeartbeats 16000000 in
set_option maxRecDepth 100000 in
theorem l07Components_any (m : Option Addr) (n cap : Nat) (P Q R S : Nat → Int) (w : World) (hn : n ≤ 1048576) (hR : RectsIs w.heap.size w m n P Q R S) (hok : okR P Q R S n = true) :
    Calls Tryd.prog 79 #[.slice m n cap] w fun e w' => LsRes (cmpL (covF P Q R S n) false) e w' ∧ Below w.heap.size w w' := by
  obtain ⟨i3, hi3, ha0, ha1, ha2⟩ := info_parts infoSR
  have HR := Lib.hid hR
  have HV := Lib.hid (okR_all hok)
  clear hR hok
  obtain ⟨f, hf⟩ : ∃ f, covF P Q R S n = f := ⟨_, rfl⟩
  rw [hf]
  have HFF := Lib.hid hf
  clear hf
  obtain ⟨w0, hw0⟩ : ∃ w0, w0 = w.alloc (.cells #[] 26) := ⟨_, rfl⟩
  have b0 : Below w.heap.size w w0 := by rw [hw0]; (repeat (first | (with_reducible exact Below.refl _ _) | (with_reducible refine Ext.drewN ?_ _) | (with_reducible refine Below.drew ?_) | (with_reducible refine Ext.alloc ?_ _) | (with_reducible refine Ext.setCell ?_ (by simp; try omega) _) | (with_reducible refine Ext.trans ?_ (by assumption)) | (with_reducible assumption) | exact Below.refl _ _))
  have o0 : w0.ownsRow w.heap.size 26 1 (.slice (some ⟨w.heap.size, 0, none⟩) 0 0) 0 [] := by rw [hw0]; exact World.ownsRow_made w #[] 0 (Nat.le_refl _) (by unfold maxLen; decide) rfl
  have HS0 : Hid (w0.heap.size = w.heap.size + 1) := Lib.hid (by rw [hw0]; simp)
  go_enter Tryd.func79, Tryd.ntmps79
  go_wp2_with fail
  rw [← hw0]
  clear hw0
  refine (l03Bits_any m n cap P Q R S _ hn (HR.out.ext b0) HV.out).mono ?_
  rintro e w2 ⟨⟨g, rfl, hg, hB⟩, bw2⟩
  rw [HFF.out] at hB
  have HB := Lib.hid hB
  clear hB
  go_wp2_with fail
  refine (l07Parts_any g 6400 f false _ HB.out).mono ?_
  rintro e w3 ⟨⟨ph, pc, G, ⟨hp1, hp2, hp3⟩, rfl, hP, hG⟩, bw3⟩
  have hs0 : w0.heap.size = w.heap.size + 1 := HS0.out
  have hs2 := bw2.size
  have HN3 : Hid (w.heap.size ≠ ph ∧ w.heap.size ∉ G) := Lib.hid ⟨by omega, fun hx => by have := hp3 _ hx; omega⟩
  have HP := Lib.hid hP
  have HG := Lib.hid hG
  have B23 := Ext.trans bw2 bw3
  have HO3 := Lib.hid (own_keep o0 B23)
  have HW3 := Lib.hid (Ext.trans b0 B23)
  have hGL : G.length = (startsTo f false 6400).length := hP.1
  have hG6 : G.length ≤ 6400 := by rw [hGL]; exact startsTo_len f false 6400
  have HGL := Lib.hid hGL
  clear hP hG bw2 bw3 B23 b0 o0 HB hGL hp1 hp3 hs0 hs2 hg HS0
  go_wp2_with fail
  go_loopw [3, 5] (fun s3 s5 wr => ∃ (i h c' : Nat) (V : List Value), i ≤ G.length ∧ Hid (V.length = i) ∧ s3 = .slice (some ⟨h, 0, none⟩) i c' ∧ s5 = .int .i64 (i : Nat) ∧ Hid (Below w.heap.size w wr) ∧ Hid (PartsAt wr f false G (startsTo f false 6400)) ∧ Hid (∀ (i g : Nat), G[i]? = some g → wr.cell? ⟨ph, i, none⟩ = some (slB g)) ∧ Hid (h ≠ ph ∧ h ∉ G) ∧ ph < wr.heap.size ∧ Hid (wr.ownsRow w.heap.size 26 1 (.slice (some ⟨h, 0, none⟩) i c') i V) ∧ Hid (LsAt wr V ((cmpL f false).take i)) ∧ Hid (∀ v, v ∈ V → ∀ b, v.ownBlock = some b → b < wr.heap.size ∧ b ≠ h)) (fun _ s5 _ => G.length - (intOf s5).toNat)
  case atStart => exact ⟨0, w.heap.size, 0, [], by omega, Lib.hid rfl, rfl, rfl, HW3, HP, HG, HN3, hp2, HO3, Lib.hid (LsAt.nil _), Lib.hid (fun v hv => by simp at hv)⟩
  case round =>
    clear HP HG HN3 HO3 HW3 hp2
    obtain ⟨i, h, c', V, hil, hVl, rfl, rfl, HW, HP, HG, HN3, hp2, HO, HL, HN⟩ := hrel
    by_cases hlt : i < G.length
    case neg =>
      obtain rfl : i = G.length := by omega
      have q1 : ¬ ((G.length : Nat) : Int) < (G.length : Int) := by omega
      have hcl : (cmpL f false).length = G.length := by unfold cmpL; rw [List.length_map, ← HGL.out]
      have hlt0 := (HO.out.lt h rfl).2
      have hfin : LsRes (cmpL f false) (.returned (.slice (some ⟨h, 0, none⟩) G.length c')) wr := by
        refine ⟨some ⟨h, 0, none⟩, c', V, by rw [hcl], ?_, fun i v hv => ⟨h, rfl, hlt0, row_cells HO.out i v hv⟩⟩
        have := HL.out
        rwa [List.take_of_length_le (by rw [hcl]; exact Nat.le_refl _)] at this
      have HFIN := Lib.hid hfin
      clear hfin hcl
      go_wp2_with fail
      go_ret
      exact ⟨HFIN.out, HW.out⟩
    have q1 : ((i : Nat) : Int) < (G.length : Int) := by omega
    have q0 : (0 : Int) ≤ ((i : Nat) : Int) := by omega
    obtain ⟨gi, hgi⟩ : ∃ gi, G[i]? = some gi := ⟨_, List.getElem?_eq_getElem hlt⟩
    obtain ⟨s, hs⟩ : ∃ s, (startsTo f false 6400)[i]? = some s := ⟨_, List.getElem?_eq_getElem (by rw [← HGL.out]; exact hlt)⟩
    have hc := HG.out i gi hgi
    unfold slB at hc
    have HB := Lib.hid (HP.out.2 i gi s hgi hs)
    obtain ⟨l, hl⟩ : ∃ l, canonL (partF f false (cxN s) (cyN s)) = l := ⟨_, rfl⟩
    have hcm : (cmpL f false)[i]? = some l := by unfold cmpL; rw [List.getElem?_map, hs, ← hl]; rfl
    have hll : l.length ≤ 3280 := by rw [← hl]; exact canonL_len _
    have HCM := Lib.hid hcm
    have HLL := Lib.hid hl
    clear hcm hl hgi hs
    go_wp2_with fail
    refine (l03Canon_any gi 6400 _ _ HB.out).mono ?_
    rintro e w4 ⟨⟨b, cb, rfl, hI⟩, bw4⟩
    rw [HLL.out] at hI ⊢
    have hb0 := hI.1
    have hb1 := hI.2.1
    have HI := Lib.hid hI.rects
    have HO4 := Lib.hid (own_keep HO.out bw4)
    have HL4 := Lib.hid (HL.out.below bw4)
    have HW4 := Lib.hid (Ext.trans HW.out bw4)
    have hws2 := HW.out.size
    have HP4 := Lib.hid (HP.out.below bw4)
    have HG4 : Hid (∀ (i g : Nat), G[i]? = some g → w4.cell? ⟨ph, i, none⟩ = some (slB g)) := Lib.hid (fun i g hg => keepC bw4 (HG.out i g hg))
    have HPL : Hid (∀ x, x ∈ G → x < wr.heap.size) := Lib.hid (fun x hx => HP.out.lt hx)
    have hhl := (HO.out.lt h rfl).2
    have hhb := (HO.out.lt h rfl).1
    have l4 := bw4.size
    clear hI bw4 HO HL HW hc HP HG
    go_wp2_with (at_builtin; refine wpList_append_own_at _ rfl _ _ 36 rfl w.heap.size 26 i3 (.slice none 0 0) 1 24 Tryd.underlying36 hi3 ha0 ha1 ha2 rfl (by decide) _ _ _ rfl (HO4.out.alloc _) ⟨w4.heap.size, 0, none⟩ 1 1 [.slice (some ⟨b, 0, none⟩) l.length cb] rfl rfl ?c1 ?c2 ?c3 ?c4 ?c5 ?_)
    case c1 =>
      intro j u hj
      match j, hj with
      | 0, hj => simp at hj; subst hj; rw [addG]; simp [go_sem]
    case c2 => intro u hu; simp at hu; subst hu; rfl
    case c3 => unfold maxLen; omega
    case c4 => omega
    case c5 => (try simp only [World.size_alloc]); omega
    intro v' wn hown' hgrow _ hat
    have hgs := hgrow.size
    rw [World.size_alloc] at hgs
    have hL5 : LsAt wn (V ++ [.slice (some ⟨b, 0, none⟩) l.length cb]) ((cmpL f false).take (i + 1)) := by
      have e : (cmpL f false).take (i + 1) = (cmpL f false).take i ++ [l] := by rw [List.take_add_one, HCM.out]; rfl
      rw [e]
      refine LsAt.grown ((HL4.out.snoc hll HI.out).below ((Below.refl _ _).alloc (Nat.le_refl _) _)) hgrow ?_
      intro v hv k hk
      rcases List.mem_append.1 hv with hv | hv
      · have := (HN.out v hv k hk).2
        simp [Value.ownBlock]; exact this
      · rw [List.mem_singleton.1 hv] at hk
        have e : b = k := (by simpa [Value.ownBlock] using hk)
        simp [Value.ownBlock]; omega
    obtain ⟨h', c2, rfl, hown1⟩ := row_next hown'
    have hW5 : Below w.heap.size w wn := Below.grown (HW4.out.alloc (by omega) _) hgrow (by simp only [World.size_alloc]; omega) (fun j hj => by have e : j = h := (by simpa [Value.ownBlock] using hj.symm); omega)
    have hP5 : PartsAt wn f false G (startsTo f false 6400) := (HP4.out.below ((Below.refl _ _).alloc (Nat.le_refl _) _)).grown hgrow (fun x hx => by simp [Value.ownBlock]; exact fun e => HN3.out.2 (e ▸ hx))
    have hG5 : ∀ (i g : Nat), G[i]? = some g → wn.cell? ⟨ph, i, none⟩ = some (slB g) := fun i g hg => hgrow.cell (keepA (HG4.out i g hg) _) (by simp [Value.ownBlock]; exact fun e => HN3.out.1 e.symm)
    have hN5 : h' ≠ ph ∧ h' ∉ G := by
      rcases hat with hat | hat
      · have e : h' = h := (by simpa [Value.ownBlock] using hat)
        rw [e]; exact HN3.out
      · have e : h' = w4.heap.size + 1 := (by simpa [Value.ownBlock] using hat)
        exact ⟨by omega, fun hx => by have := HPL.out h' hx; omega⟩
    have hM5 : ∀ v, v ∈ V ++ [Value.slice (some ⟨b, 0, none⟩) l.length cb] → ∀ k, v.ownBlock = some k → k < wn.heap.size ∧ k ≠ h' := by
      intro v hv k hk
      rcases List.mem_append.1 hv with hv | hv
      · have hh := HN.out v hv k hk
        refine ⟨by omega, ?_⟩
        rcases hat with hat | hat
        · have e : h' = h := (by simpa [Value.ownBlock] using hat)
          rw [e]; exact hh.2
        · have e : h' = w4.heap.size + 1 := (by simpa [Value.ownBlock] using hat)
          omega
      · rw [List.mem_singleton.1 hv] at hk
        have e : b = k := (by simpa [Value.ownBlock] using hk)
        refine ⟨by omega, ?_⟩
        rcases hat with hat | hat
        · have e : h' = h := (by simpa [Value.ownBlock] using hat)
          omega
        · have e : h' = w4.heap.size + 1 := (by simpa [Value.ownBlock] using hat)
          omega
    have HW5 := Lib.hid hW5
    have HP5 := Lib.hid hP5
    have HG5 := Lib.hid hG5
    have HN5 := Lib.hid hN5
    have HL5 := Lib.hid hL5
    have HO5 := Lib.hid hown1
    have HM5 := Lib.hid hM5
    have HV5 : Hid ((V ++ [Value.slice (some ⟨b, 0, none⟩) l.length cb]).length = i + 1) := Lib.hid (by rw [List.length_append, hVl.out]; rfl)
    have hpn : ph < wn.heap.size := by omega
    clear hown' hgrow hat hW5 hP5 hG5 hN5 hL5 hown1 hM5 hgs HI HL4 HO4 HW4 HP4 HG4
    go_wp2_with fail
    go_roundw
    case rel => exact ⟨i + 1, h', c2, _, by omega, HV5, rfl, by go_num, HW5, HP5, HG5, HN5, hpn, HO5, HL5, HM5⟩
    case measure => simp [intOf]; omega
end Go.Proofs.YtepfnnhmplaocaaDoor
