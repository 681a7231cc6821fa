/- Maps with points as keys and pointers as elements: what such a map reads as. No condition. -/
import Derived.Test.YtfbalpkjcfdakaaGreatDoorZA
import Derived.Maps.OwnIn
import Derived.Sort.MapsRangeIn
import Derived.Maps.RangeWalk
import Derived.DeepKeys4
import Derived.Test.YtfbalpkjcfdakaaGreatDoorQI
import Derived.Test.YtfbalpkjcfdakaaGreatDoorQG
import Derived.Test.YtfbalpkjcfdakaaGreatDoorZB
import Derived.Test.YtfbalpkjcfdakaaGreatDoorQU
namespace Go.Proofs.YtfbalpkjcfdakaaGreatDoor
open Go.RowKit Go.Maps
set_option linter.unusedVariables false
set_option linter.unusedSimpArgs false

def klP (x y : Int) : Lit := .string (keyBytes [.int .i64 x, .int .i64 y])
theorem wfB {x : Int} (h : -1000 ≤ x ∧ x ≤ 1000) : (Lit.int .i64 x).wf = true := WalkArith.wf_i64 (by omega)
theorem ptHu : Tryz.prog.underlying 107 = some (.struct (Tryz.prog.fieldsOf 107)) := by kernel_rfl
theorem ptHf : (Tryz.prog.fieldsOf 107).toList.map (fun f => (f.name, f.type, f.offset)) = [("X", 2, 0), ("Y", 2, 1)] := by kernel_rfl
theorem ptKey : Tryz.prog.keyType 107 = true := by kernel_rfl
theorem ptCells : Tryz.prog.cellsOf 107 = 2 := by kernel_rfl
theorem i64Cells : Tryz.prog.cellsOf 2 = 1 := by kernel_rfl
theorem ptSize : ∃ m, Tryz.prog.types.size = m + 1 := ⟨Tryz.prog.types.size - 1, by have : 0 < Tryz.prog.types.size := of_decide_eq_true (by kernel_rfl); omega⟩
theorem laidOutE : laidOutB Tryz.prog = true := by kernel_rfl
theorem ptRow : (107 : TypeId) < Tryz.prog.types.size := of_decide_eq_true (by kernel_rfl)
theorem ptKeyT : Tryz.prog.keyTypeAt 2 107 = true := by kernel_rfl
theorem keyLawP : Go.WideMaps.KeyLaw Tryz.prog 107 := deep_law_laid laidOutE (m := 2) (by omega) ptRow ptKeyT (by rw [ptHu])
theorem keyedP : Keyed Tryz.prog 107 := Keyed.of_law keyLawP

theorem ptLits (c0 c1 : Value) : Tryz.prog.keyLits (Tryz.prog.types.size + 1) 107 [c0, c1] = match c0, c1 with
    | .int .i64 x, .int .i64 y => if (Lit.int .i64 x).wf = true ∧ (Lit.int .i64 y).wf = true then some [.int .i64 x, .int .i64 y] else none
    | _, _ => none := by
  obtain ⟨m, hm⟩ := ptSize
  have hf := ptHf
  have hq : ∀ v, Tryz.prog.keyLits (m + 1) 2 [v] = match v with | .int .i64 x => (if (Lit.int .i64 x).wf = true then some [.int .i64 x] else none) | _ => none := by
    intro v
    unfold Program.keyLits
    rw [Tryz.underlying2]
    cases v <;> try rfl
    rename_i k n
    cases k <;> simp
  rw [hm]
  unfold Program.keyLits
  rw [ptHu]
  generalize Tryz.prog.fieldsOf 107 = F at hf
  obtain ⟨fs⟩ := F
  simp only at hf
  rcases fs with _ | ⟨f0, _ | ⟨f1, _ | ⟨f2, r⟩⟩⟩
  · simp at hf
  · simp at hf
  · simp only [List.map_cons, List.map_nil, List.cons.injEq, Prod.mk.injEq, and_true] at hf
    obtain ⟨⟨n0, t0, o0⟩, n1, t1, o1⟩ := hf
    simp only [ptCells, List.length_cons, List.length_nil]
    rw [if_pos (by simp [n0, n1])]
    simp only [List.mapM_cons, List.mapM_nil, t0, o0, t1, o1, i64Cells, List.drop_zero, List.take_succ_cons, List.take_zero, List.drop_succ_cons, hq]
    cases c0 <;> (try simp; done) <;> cases c1 <;> (try simp; done)
    · rename_i k n k' n'
      cases k <;> (try simp; done) <;> cases k' <;> (try simp; done)
      · by_cases h0 : (Lit.int .i64 n).wf = true <;> by_cases h1 : (Lit.int .i64 n').wf = true <;> simp [h0, h1]
  · simp at hf

theorem keyOfP {x y : Int} (hx : -1000 ≤ x ∧ x ≤ 1000) (hy : -1000 ≤ y ∧ y ≤ 1000) : keyOf Tryz.prog 107 (.agg #[.int .i64 x, .int .i64 y]) = some (klP x y) := by
  unfold keyOf
  rw [ptHu]
  simp only
  rw [if_pos (by simp [ptKey, Value.formed, ptHu, ptCells])]
  simp only [Value.cells]
  rw [ptLits]
  simp [wfB hx, wfB hy, klP]
theorem keyP_inv {v : Value} {l : Lit} (h : keyOf Tryz.prog 107 v = some l) : ∃ x y : Int, v = .agg #[.int .i64 x, .int .i64 y] ∧ l = klP x y := by
  unfold keyOf at h
  rw [ptHu] at h
  simp only at h
  split at h
  · rename_i hc
    rw [Bool.and_eq_true] at hc
    have hf := hc.2
    cases v with
    | agg cs =>
      simp only [Value.formed, ptHu, ptCells, beq_iff_eq] at hf
      obtain ⟨l0⟩ := cs
      rcases l0 with _ | ⟨c0, _ | ⟨c1, _ | ⟨c2, r⟩⟩⟩
      · simp at hf
      · simp at hf
      · simp only [Value.cells] at h
        rw [ptLits] at h
        cases c0 <;> (try (simp at h; done)) <;> cases c1 <;> (try (simp at h; done))
        rename_i k n k' n'
        cases k <;> (try (simp at h; done)) <;> cases k' <;> (try (simp at h; done))
        simp only at h
        split at h
        · simp at h
          exact ⟨n, n', rfl, h.symm⟩
        · simp at h
      · simp at hf
    | _ => simp [Value.formed, ptHu] at hf
  · cases h
theorem klP_inj {x y x' y' : Int} (hx : -1000 ≤ x ∧ x ≤ 1000) (hy : -1000 ≤ y ∧ y ≤ 1000) (hx' : -1000 ≤ x' ∧ x' ≤ 1000) (hy' : -1000 ≤ y' ∧ y' ≤ 1000) (h : klP x y = klP x' y') : x = x' ∧ y = y' := by
  have := keyedP.inj (keyOfP hx hy) (by rw [h]; exact keyOfP hx' hy')
  simpa using this

/-- How a pointer reads that is a map's element: as its block's number. -/
def pE (b : Nat) : DataW Unit := .lit (.int .i64 (b : Int))
def ptrElem : Value → Option (DataW Unit × List MemPlace)
  | .pointer (some ⟨b, 0, none⟩) => some (pE b, [])
  | .pointer none => some (.nil, [])
  | _ => none
theorem ptrElem_mk (b : Nat) : ptrElem (.pointer (some ⟨b, 0, none⟩)) = some (pE b, []) := rfl
theorem ptrElem_nil : ptrElem (.pointer none) = some (.nil, []) := rfl
theorem ptrElem_inv {v : Value} {d : DataW Unit} {ps : List MemPlace} (h : ptrElem v = some (d, ps)) : (∃ b, v = .pointer (some ⟨b, 0, none⟩) ∧ d = pE b) ∨ (v = .pointer none ∧ d = .nil) := by
  unfold ptrElem at h
  split at h
  · rename_i b
    simp at h
    exact .inl ⟨b, rfl, h.1.symm⟩
  · simp at h
    exact .inr ⟨rfl, h.1.symm⟩
  · cases h
theorem pE_inj {b c : Nat} (h : pE b = pE c) : b = c := by
  simp [pE] at h
  omega
theorem pE_nil (b : Nat) : pE b ≠ .nil := by simp [pE]

def Bd (x : Int) : Prop := -1000 ≤ x ∧ x ≤ 1000
/-- The map reads as M. -/
structure MapIs (D : DataW Unit) (M : Int → Int → Option Nat) : Prop where
  isMap : IsMap D
  has : ∀ x y, Bd x → Bd y → Maps.has D (klP x y) = (M x y).isSome
  val : ∀ x y b, Bd x → Bd y → M x y = some b → ∀ z, D.atKey (klP x y) z = pE b
  keys : ∀ kl, Maps.has D kl = true → ∃ x y, Bd x ∧ Bd y ∧ kl = klP x y
theorem MapIs.start : MapIs (.map []) (fun _ _ => none) := ⟨isMap_empty, fun _ _ _ _ => rfl, fun _ _ _ _ _ h => (by cases h), fun _ h => (by cases h)⟩
def putM (M : Int → Int → Option Nat) (x y : Int) (b : Nat) : Int → Int → Option Nat := fun x' y' => if x' = x ∧ y' = y then some b else M x' y'
theorem isKeyP {x y : Int} (hx : Bd x) (hy : Bd y) : WideAt.IsKeyLit (klP x y) := keyedP.key (keyOfP hx hy)
theorem MapIs.put {D : DataW Unit} {M : Int → Int → Option Nat} (h : MapIs D M) {x y : Int} (hx : Bd x) (hy : Bd y) (b : Nat) : MapIs (D.put (klP x y) (pE b)) (putM M x y b) where
  isMap := h.isMap.put _ _
  has x' y' hx' hy' := by
    unfold putM
    by_cases e : x' = x ∧ y' = y
    · rw [if_pos e, e.1, e.2, has_put_same h.isMap (isKeyP hx hy)]; rfl
    · rw [if_neg e, has_put_other (fun k => e (klP_inj hx' hy' hx hy k))]
      exact h.has x' y' hx' hy'
  val x' y' c hx' hy' hm z := by
    unfold putM at hm
    by_cases e : x' = x ∧ y' = y
    · rw [if_pos e] at hm
      cases hm
      rw [e.1, e.2, atKey_put_same h.isMap (isKeyP hx hy)]
    · rw [if_neg e] at hm
      rw [atKey_put_other (fun k => e (klP_inj hx' hy' hx hy k))]
      exact h.val x' y' c hx' hy' hm z
  keys kl hk := by
    by_cases e : kl = klP x y
    · exact ⟨x, y, hx, hy, e⟩
    · rw [has_put_other e] at hk
      exact h.keys kl hk
end Go.Proofs.YtfbalpkjcfdakaaGreatDoor

namespace Go.Proofs.YtfbalpkjcfdakaaGreatDoor
open Go.RowKit
set_option linter.unusedVariables false
set_option linter.unusedSimpArgs false

theorem run_len (f : Nat → Bool) (y : Int) : ∀ k : Nat, (runsTo f y k).length % 2 = if hasB f (-40 + (k : Int) - 1) y = true then 1 else 0
  | 0 => by rw [hasB_out (by omega)]; rfl
  | k + 1 => by
    have ih := run_len f y k
    have e : -40 + ((k + 1 : Nat) : Int) - 1 = -40 + (k : Int) := by omega
    rw [e]
    cases hc : chg f (-40 + (k : Int)) y with
    | true =>
      rw [runsTo_yes hc, List.length_append]
      unfold chg at hc
      cases h1 : hasB f (-40 + (k : Int)) y <;> cases h2 : hasB f (-40 + (k : Int) - 1) y <;> rw [h1, h2] at hc <;> (try (cases hc; done)) <;> rw [h2] at ih <;> simp at ih ⊢ <;> omega
    | false =>
      rw [runsTo_no hc]
      unfold chg at hc
      cases h1 : hasB f (-40 + (k : Int)) y <;> cases h2 : hasB f (-40 + (k : Int) - 1) y <;> rw [h1, h2] at hc <;> (try (cases hc; done)) <;> rw [h2] at ih <;> simp at ih ⊢ <;> omega
theorem run_at (f : Nat → Bool) (y : Int) : ∀ (n i : Nat) (x : Int), (runsTo f y n)[i]? = some x → ∃ k : Nat, k < n ∧ x = -40 + (k : Int) ∧ chg f x y = true ∧ (runsTo f y k).length = i
  | 0, i, x, h => by simp [runsTo] at h
  | n + 1, i, x, h => by
    cases hc : chg f (-40 + (n : Int)) y with
    | true =>
      rw [runsTo_yes hc] at h
      by_cases hi : i < (runsTo f y n).length
      · rw [List.getElem?_append_left hi] at h
        obtain ⟨k, h1, h2⟩ := run_at f y n i x h
        exact ⟨k, by omega, h2⟩
      · rw [List.getElem?_append_right (by omega)] at h
        have hi2 : i - (runsTo f y n).length = 0 := by
          have := (List.getElem?_eq_some_iff.1 h).1
          simp at this
          omega
        rw [hi2] at h
        simp at h
        subst h
        exact ⟨n, by omega, rfl, hc, by omega⟩
    | false =>
      rw [runsTo_no hc] at h
      obtain ⟨k, h1, h2⟩ := run_at f y n i x h
      exact ⟨k, by omega, h2⟩
theorem run_in (f : Nat → Bool) (y : Int) : ∀ (n k : Nat), k < n → chg f (-40 + (k : Int)) y = true → (-40 + (k : Int)) ∈ runsTo f y n
  | 0, k, h, _ => by omega
  | n + 1, k, h, hc => by
    by_cases e : k = n
    · subst e
      rw [runsTo_yes hc]
      simp
    · have := run_in f y n k (by omega) hc
      rw [runsTo]
      split
      · simp [this]
      · exact this
/-- The direction of a run's end, by its place in the row. -/
def oI (i : Nat) : Nat := if i % 2 = 0 then 3 else 2
theorem oI_or (i : Nat) : oI i = 2 ∨ oI i = 3 := by unfold oI; split <;> simp
theorem gS23 (f : Nat → Bool) (x y : Int) : gS f 2 x y = true → gS f 3 x y = false := by
  simp only [gS]
  cases hasB f x y <;> cases hasB f (x - 1) y <;> simp
theorem gS_chg (f : Nat → Bool) (x y : Int) : (gS f 2 x y || gS f 3 x y) = chg f x y := by
  simp only [gS, chg]
  cases hasB f x y <;> cases hasB f (x - 1) y <;> rfl
theorem run_dir {f : Nat → Bool} {y x : Int} {i : Nat} (h : (runsL f y)[i]? = some x) : (-40 ≤ x ∧ x ≤ 40) ∧ gS f (oI i) x y = true := by
  obtain ⟨k, h1, h2, h3, h4⟩ := run_at f y 81 i x h
  have hl := run_len f y k
  rw [h4, ← h2] at hl
  refine ⟨by omega, ?_⟩
  unfold oI
  unfold chg at h3
  by_cases e : i % 2 = 0
  · rw [if_pos e]
    have h5 : hasB f (x - 1) y = false := by
      cases h6 : hasB f (x - 1) y with
      | false => rfl
      | true => rw [h6, if_pos rfl] at hl; omega
    rw [h5] at h3
    simp only [gS, h5]
    simpa using h3
  · rw [if_neg e]
    have h5 : hasB f (x - 1) y = true := by
      cases h6 : hasB f (x - 1) y with
      | true => rfl
      | false => rw [h6] at hl; simp at hl; omega
    rw [h5] at h3
    simp only [gS, h5]
    simpa using h3
theorem run_all {f : Nat → Bool} {o : Nat} {x y : Int} (ho : o = 2 ∨ o = 3) (h : gS f o x y = true) : x ∈ runsL f y := by
  have hb := gS_t h
  have hc : chg f x y = true := by
    rw [← gS_chg]
    rcases ho with rfl | rfl <;> simp [h]
  have := run_in f y 81 (x + 40).toNat (by omega) (by rw [show -40 + (((x + 40).toNat : Nat) : Int) = x by omega]; exact hc)
  rwa [show -40 + (((x + 40).toNat : Nat) : Int) = x by omega] at this
theorem incL_nodup : ∀ {l : List Int}, incL l → l.Nodup
  | [], _ => .nil
  | a :: l, h => List.nodup_cons.2 ⟨fun ha => by have := h.1 a ha; omega, incL_nodup h.2⟩
theorem runsL_nodup (f : Nat → Bool) (y : Int) : (runsL f y).Nodup := incL_nodup (runsTo_inc f y 81)

/-- Has a side come, when the first i ends of row y have? -/
def dn (f : Nat → Bool) (y : Int) (i : Nat) (o : Nat) (c t : Int) : Bool := gS f o c t && (decide (t < y) || (decide (t = y) && decide (c ∈ (runsL f y).take i)))
theorem dn_t {f : Nat → Bool} {y : Int} {i o : Nat} {c t : Int} (h : dn f y i o c t = true) : gS f o c t = true ∧ t ≤ y := by
  simp only [dn, Bool.and_eq_true, Bool.or_eq_true, decide_eq_true_eq] at h
  exact ⟨h.1, by omega⟩
theorem dn_step {f : Nat → Bool} {y x : Int} {i : Nat} (h : (runsL f y)[i]? = some x) {o : Nat} (ho : o = 2 ∨ o = 3) (c t : Int) : dn f y (i + 1) o c t = (dn f y i o c t || (decide (o = oI i) && (decide (c = x) && decide (t = y)))) := by
  have hd := (run_dir h).2
  have htk : (runsL f y).take (i + 1) = (runsL f y).take i ++ [x] := by
    rw [List.take_add_one, h]
    rfl
  unfold dn
  rw [htk, Bool.eq_iff_iff]
  simp only [Bool.and_eq_true, Bool.or_eq_true, decide_eq_true_eq, List.mem_append, List.mem_singleton]
  constructor
  · rintro ⟨h1, h2 | ⟨h2, h3 | h3⟩⟩
    · exact .inl ⟨h1, .inl h2⟩
    · exact .inl ⟨h1, .inr ⟨h2, h3⟩⟩
    · subst h2 h3
      refine .inr ⟨?_, rfl, rfl⟩
      rcases ho with rfl | rfl <;> rcases oI_or i with e | e <;> rw [e] at hd ⊢
      · have := gS23 f c t h1; rw [this] at hd; cases hd
      · have := gS23 f c t hd; rw [this] at h1; cases h1
  · rintro (⟨h1, h2 | ⟨h2, h3⟩⟩ | ⟨h1, h2, h3⟩)
    · exact ⟨h1, .inl h2⟩
    · exact ⟨h1, .inr ⟨h2, .inl h3⟩⟩
    · subst h1 h2 h3
      exact ⟨hd, .inr ⟨rfl, .inr rfl⟩⟩
theorem dn_new {f : Nat → Bool} {y x : Int} {i : Nat} (h : (runsL f y)[i]? = some x) (o : Nat) : dn f y i o x y = false := by
  have hn := runsL_nodup f y
  have hx : x ∉ (runsL f y).take i := by
    intro hm
    obtain ⟨j, hj⟩ := List.getElem?_of_mem hm
    have hji : j < i := by
      have := (List.getElem?_eq_some_iff.1 hj).1
      rw [List.length_take] at this
      omega
    rw [List.getElem?_take_of_lt hji] at hj
    obtain ⟨l1, e1⟩ := List.getElem?_eq_some_iff.1 hj
    obtain ⟨l2, e2⟩ := List.getElem?_eq_some_iff.1 h
    exact List.pairwise_iff_getElem.1 hn j i l1 l2 hji (e1.trans e2.symm)
  simp [dn, hx]
theorem dn_up (f : Nat → Bool) (y : Int) (i o : Nat) (x : Int) : dn f y i o x (y + 1) = false := by
  unfold dn
  rw [decide_eq_false (by omega), decide_eq_false (by omega)]
  simp

/-- The blocks of the sides that have come, and the edges in them. -/
structure UpI (d : Nat → Int → Int → Bool) (M : Int → Int → Option Nat) (Ed : Nat → R4) : Prop where
  dom : ∀ c t, (M c t).isSome = (d 2 c t || d 3 c t)
  edge : ∀ c t b, M c t = some b → ∃ o lo hi, (o = 2 ∨ o = 3) ∧ MaxI (d o c) lo hi ∧ lo ≤ t ∧ t < hi ∧ Ed b = mkE o c lo hi
  one : ∀ c t c' t' b b', M c t = some b → M c' t' = some b' → Ed b = Ed b' → b = b'
def pM (M : Int → Int → Option Nat) (x y : Int) (b : Nat) : Int → Int → Option Nat := fun x' y' => if x' = x ∧ y' = y then some b else M x' y'
def setEd (Ed : Nat → R4) (b : Nat) (e : R4) : Nat → R4 := fun k => if k = b then e else Ed k
theorem setEd_same (Ed : Nat → R4) (b : Nat) (e : R4) : setEd Ed b e b = e := if_pos rfl
theorem setEd_other {Ed : Nat → R4} {b k : Nat} (e : R4) (h : k ≠ b) : setEd Ed b e k = Ed k := if_neg h

theorem o23 {o : Nat} (h : o = 2 ∨ o = 3) : o < 4 := by omega
theorem UpI.start (d : Nat → Int → Int → Bool) (h : ∀ o c t, o = 2 ∨ o = 3 → d o c t = false) (Ed : Nat → R4) : UpI d (fun _ _ => none) Ed :=
  ⟨fun c t => by rw [h 2 c t (.inl rfl), h 3 c t (.inr rfl)]; rfl, fun c t b e => (by cases e), fun c t c' t' b b' e => (by cases e)⟩
theorem UpI.congr {d d' : Nat → Int → Int → Bool} {M : Int → Int → Option Nat} {Ed : Nat → R4} (h : UpI d M Ed) (hd : ∀ o c t, o = 2 ∨ o = 3 → d' o c t = d o c t) : UpI d' M Ed where
  dom c t := by rw [h.dom, hd 2 c t (.inl rfl), hd 3 c t (.inr rfl)]
  edge c t b hb := by
    obtain ⟨o, lo, hi, ho, hm, r⟩ := h.edge c t b hb
    exact ⟨o, lo, hi, ho, by rwa [show d' o c = d o c from funext fun s => hd o c s ho], r⟩
  one := h.one

/-- A side that continues an edge. -/
theorem UpI.join {d d' : Nat → Int → Int → Bool} {M : Int → Int → Option Nat} {Ed : Nat → R4} {o : Nat} {x y lo : Int} {b : Nat} (h : UpI d M Ed) (ho : o = 2 ∨ o = 3)
    (hd : ∀ o' c t, o' = 2 ∨ o' = 3 → d' o' c t = (d o' c t || (decide (o' = o) && (decide (c = x) && decide (t = y)))))
    (hup : ∀ o', o' = 2 ∨ o' = 3 → d o' x (y + 1) = false) (hb : M x (y - 1) = some b) (hE : Ed b = mkE o x lo y) (hlo : lo < y) :
    UpI d' (pM M x y b) (setEd Ed b (mkE o x lo (y + 1))) := by
  obtain ⟨o1, lo1, hi1, ho1, hm1, t1, t2, e1⟩ := h.edge _ _ _ hb
  obtain ⟨rfl, -, rfl, rfl⟩ := mkE_inj (o23 ho) (o23 ho1) hlo hm1.1 (hE.symm.trans e1)
  have hoth : ∀ {o' c t}, (o' = 2 ∨ o' = 3) → ¬ (o' = o ∧ c = x ∧ t = y) → d' o' c t = d o' c t := fun {o' c t} h1 h2 => by
    rw [hd _ _ _ h1]
    cases hx : (decide (o' = o) && (decide (c = x) && decide (t = y))) with
    | false => simp
    | true =>
      simp only [Bool.and_eq_true, decide_eq_true_eq] at hx
      exact absurd hx h2
  have hself : d' o x y = true := by rw [hd _ _ _ ho]; simp
  have hnew : MaxI (d' o x) lo (y + 1) := by
    refine ⟨by omega, fun s s1 s2 => ?_, ?_, ?_⟩
    · by_cases e : s = y
      · rw [e]; exact hself
      · rw [hoth ho (by omega)]; exact hm1.2.1 s s1 (by omega)
    · rw [hoth ho (by omega)]; exact hm1.2.2.1
    · rw [hoth ho (by omega)]; exact hup o ho
  -- an entry in block b lies on this edge; one in another block on another edge
  have key : ∀ c t k, M c t = some k → ∃ o' lo' hi', (o' = 2 ∨ o' = 3) ∧ MaxI (d' o' c) lo' hi' ∧ lo' ≤ t ∧ t < hi' ∧ setEd Ed b (mkE o x lo (y + 1)) k = mkE o' c lo' hi' := by
    intro c t k hk
    obtain ⟨o2, lo2, hi2, ho2, hm2, u1, u2, e2⟩ := h.edge c t k hk
    by_cases hkb : k = b
    · subst hkb
      obtain ⟨rfl, rfl, rfl, rfl⟩ := mkE_inj (o23 ho) (o23 ho2) hlo hm2.1 (hE.symm.trans e2)
      exact ⟨o, lo, y + 1, ho, hnew, u1, by omega, setEd_same _ _ _⟩
    · refine ⟨o2, lo2, hi2, ho2, ?_, u1, u2, by rw [setEd_other _ hkb]; exact e2⟩
      by_cases hoc : o2 = o ∧ c = x
      · obtain ⟨rfl, rfl⟩ := hoc
        have hne : ¬ (lo2 ≤ y ∧ y ≤ hi2) := by
          rintro ⟨w1, w2⟩
          by_cases hy : y = hi2
          · have hl : lo2 ≤ y - 1 := by have := hm2.1; omega
            obtain ⟨rfl, -⟩ := hm1.eq hm2 (t := y - 1) (by omega) (by omega) hl (by omega)
            refine hkb (h.one c t c (y - 1) k b hk hb ?_)
            rw [e2, hE, hy]
          · have := hm2.2.1 y w1 (by omega)
            rw [hm1.2.2.2] at this
            cases this
        have hlo2 : lo2 - 1 ≠ y := by
          intro e
          have := hm2.2.1 (y + 1) (by omega) (by have := hm2.1; omega)
          rw [hup o2 ho2] at this
          cases this
        refine ⟨hm2.1, fun s s1 s2 => ?_, ?_, ?_⟩
        · rw [hoth ho2 (by omega)]; exact hm2.2.1 s s1 s2
        · rw [hoth ho2 (by omega)]; exact hm2.2.2.1
        · rw [hoth ho2 (by have := hm2.1; omega)]; exact hm2.2.2.2
      · rw [show d' o2 c = d o2 c from funext fun s => hoth ho2 (fun e => hoc ⟨e.1, e.2.1⟩)]
        exact hm2
  refine ⟨fun c t => ?_, fun c t k hk => ?_, fun c t c' t' k k' hk hk' he => ?_⟩
  · unfold pM
    by_cases e : c = x ∧ t = y
    · obtain ⟨rfl, rfl⟩ := e
      rw [if_pos ⟨rfl, rfl⟩]
      rcases ho with rfl | rfl <;> simp [hself]
    · rw [if_neg e, h.dom, hoth (.inl rfl) (fun w => e ⟨w.2.1, w.2.2⟩), hoth (.inr rfl) (fun w => e ⟨w.2.1, w.2.2⟩)]
  · unfold pM at hk
    by_cases e : c = x ∧ t = y
    · rw [if_pos e] at hk
      cases hk
      rw [e.1, e.2]
      exact ⟨o, lo, y + 1, ho, hnew, by omega, by omega, setEd_same _ _ _⟩
    · rw [if_neg e] at hk
      exact key c t k hk
  · have hin : ∀ {c t k}, pM M x y b c t = some k → k = b ∨ ∃ c t, M c t = some k := fun {c t k} hk => by
      unfold pM at hk
      split at hk
      · cases hk; exact .inl rfl
      · exact .inr ⟨_, _, hk⟩
    have hold : ∀ {k}, k = b ∨ (∃ c t, M c t = some k) → ∃ c t, M c t = some k := fun {k} hk => hk.elim (fun e => ⟨_, _, e ▸ hb⟩) id
    obtain ⟨c1, u1, m1⟩ := hold (hin hk)
    obtain ⟨c2, u2, m2⟩ := hold (hin hk')
    by_cases k1 : k = b
    · by_cases k2 : k' = b
      · rw [k1, k2]
      · exfalso
        rw [k1, setEd_same, setEd_other _ k2] at he
        obtain ⟨o3, lo3, hi3, ho3, hm3, v1, v2, e3⟩ := h.edge c2 u2 k' m2
        obtain ⟨rfl, rfl, rfl, rfl⟩ := mkE_inj (o23 ho) (o23 ho3) (by omega) hm3.1 (he.trans e3)
        have := hm3.2.1 y (by omega) (by omega)
        rw [hm1.2.2.2] at this
        cases this
    · by_cases k2 : k' = b
      · exfalso
        rw [k2, setEd_same, setEd_other _ k1] at he
        obtain ⟨o3, lo3, hi3, ho3, hm3, v1, v2, e3⟩ := h.edge c1 u1 k m1
        obtain ⟨rfl, rfl, rfl, rfl⟩ := mkE_inj (o23 ho) (o23 ho3) (by omega) hm3.1 (he.symm.trans e3)
        have := hm3.2.1 y (by omega) (by omega)
        rw [hm1.2.2.2] at this
        cases this
      · rw [setEd_other _ k1, setEd_other _ k2] at he
        exact h.one _ _ _ _ _ _ m1 m2 he

/-- A side that begins an edge. -/
theorem UpI.fresh {d d' : Nat → Int → Int → Bool} {M : Int → Int → Option Nat} {Ed : Nat → R4} {o : Nat} {x y : Int} {b : Nat} (h : UpI d M Ed) (ho : o = 2 ∨ o = 3)
    (hd : ∀ o' c t, o' = 2 ∨ o' = 3 → d' o' c t = (d o' c t || (decide (o' = o) && (decide (c = x) && decide (t = y)))))
    (hup : ∀ o', o' = 2 ∨ o' = 3 → d o' x (y + 1) = false) (hat : d o x y = false) (hlow : d o x (y - 1) = false) (hb : ∀ c t, M c t ≠ some b) :
    UpI d' (pM M x y b) (setEd Ed b (mkE o x y (y + 1))) := by
  have hoth : ∀ {o' c t}, (o' = 2 ∨ o' = 3) → ¬ (o' = o ∧ c = x ∧ t = y) → d' o' c t = d o' c t := fun {o' c t} h1 h2 => by
    rw [hd _ _ _ h1]
    cases hx : (decide (o' = o) && (decide (c = x) && decide (t = y))) with
    | false => simp
    | true =>
      simp only [Bool.and_eq_true, decide_eq_true_eq] at hx
      exact absurd hx h2
  have hself : d' o x y = true := by rw [hd _ _ _ ho]; simp
  have hnew : MaxI (d' o x) y (y + 1) := by
    refine ⟨by omega, fun s s1 s2 => ?_, ?_, ?_⟩
    · rw [show s = y by omega]; exact hself
    · rw [hoth ho (by omega)]; exact hlow
    · rw [hoth ho (by omega)]; exact hup o ho
  have key : ∀ c t k, M c t = some k → ∃ o' lo' hi', (o' = 2 ∨ o' = 3) ∧ MaxI (d' o' c) lo' hi' ∧ lo' ≤ t ∧ t < hi' ∧ setEd Ed b (mkE o x y (y + 1)) k = mkE o' c lo' hi' := by
    intro c t k hk
    obtain ⟨o2, lo2, hi2, ho2, hm2, u1, u2, e2⟩ := h.edge c t k hk
    have hkb : k ≠ b := fun e => hb c t (e ▸ hk)
    refine ⟨o2, lo2, hi2, ho2, ?_, u1, u2, by rw [setEd_other _ hkb]; exact e2⟩
    by_cases hoc : o2 = o ∧ c = x
    · obtain ⟨rfl, rfl⟩ := hoc
      have hne : ¬ (lo2 ≤ y ∧ y ≤ hi2) := by
        rintro ⟨w1, w2⟩
        by_cases hy : y = hi2
        · have := hm2.2.1 (y - 1) (by have := hm2.1; omega) (by omega)
          rw [hlow] at this
          cases this
        · have := hm2.2.1 y w1 (by omega)
          rw [hat] at this
          cases this
      have hlo2 : lo2 - 1 ≠ y := by
        intro e
        have := hm2.2.1 (y + 1) (by omega) (by have := hm2.1; omega)
        rw [hup o2 ho2] at this
        cases this
      refine ⟨hm2.1, fun s s1 s2 => ?_, ?_, ?_⟩
      · rw [hoth ho2 (by omega)]; exact hm2.2.1 s s1 s2
      · rw [hoth ho2 (by omega)]; exact hm2.2.2.1
      · rw [hoth ho2 (by have := hm2.1; omega)]; exact hm2.2.2.2
    · rw [show d' o2 c = d o2 c from funext fun s => hoth ho2 (fun e => hoc ⟨e.1, e.2.1⟩)]
      exact hm2
  refine ⟨fun c t => ?_, fun c t k hk => ?_, fun c t c' t' k k' hk hk' he => ?_⟩
  · unfold pM
    by_cases e : c = x ∧ t = y
    · obtain ⟨rfl, rfl⟩ := e
      rw [if_pos ⟨rfl, rfl⟩]
      rcases ho with rfl | rfl <;> simp [hself]
    · rw [if_neg e, h.dom, hoth (.inl rfl) (fun w => e ⟨w.2.1, w.2.2⟩), hoth (.inr rfl) (fun w => e ⟨w.2.1, w.2.2⟩)]
  · unfold pM at hk
    by_cases e : c = x ∧ t = y
    · rw [if_pos e] at hk
      cases hk
      rw [e.1, e.2]
      exact ⟨o, y, y + 1, ho, hnew, by omega, by omega, setEd_same _ _ _⟩
    · rw [if_neg e] at hk
      exact key c t k hk
  · have hin : ∀ {c t k}, pM M x y b c t = some k → k = b ∨ ∃ c t, M c t = some k := fun {c t k} hk => by
      unfold pM at hk
      split at hk
      · cases hk; exact .inl rfl
      · exact .inr ⟨_, _, hk⟩
    have far : ∀ {k}, (∃ c t, M c t = some k) → k ≠ b ∧ Ed k ≠ mkE o x y (y + 1) := fun {k} ⟨c, t, hk⟩ => by
      refine ⟨fun e => hb c t (e ▸ hk), fun e => ?_⟩
      obtain ⟨o3, lo3, hi3, ho3, hm3, v1, v2, e3⟩ := h.edge c t k hk
      obtain ⟨rfl, rfl, rfl, rfl⟩ := mkE_inj (o23 ho) (o23 ho3) (by omega) hm3.1 (e.symm.trans e3)
      have := hm3.2.1 y (by omega) (by omega)
      rw [hat] at this
      cases this
    rcases hin hk with k1 | k1 <;> rcases hin hk' with k2 | k2
    · rw [k1, k2]
    · rw [k1, setEd_same, setEd_other _ (far k2).1] at he
      exact absurd he.symm (far k2).2
    · rw [k2, setEd_same, setEd_other _ (far k1).1] at he
      exact absurd he (far k1).2
    · obtain ⟨c1, u1, m1⟩ := k1
      obtain ⟨c2, u2, m2⟩ := k2
      rw [setEd_other _ (far ⟨c1, u1, m1⟩).1, setEd_other _ (far ⟨c2, u2, m2⟩).1] at he
      exact h.one _ _ _ _ _ _ m1 m2 he

theorem rowsQ_sorted : ∀ (f : Nat) (P Q R S : Nat → Int) (n : Nat), n ≤ f → (∀ i, i < n → rvB (P i) (Q i) (R i) (S i) = true) → (∀ i j, i < j → j < n → (Q i = Q j ∧ S i = S j) ∨ S i ≤ Q j) → (rowsQ f P Q R S n).Pairwise (fun e e' => e.1 < e'.1)
  | 0, P, Q, R, S, n, hn, _, _ => by simp [rowsQ]
  | f + 1, P, Q, R, S, n, hn, hv, ho => by
    rw [rowsQ]
    by_cases h0 : n = 0
    · rw [if_pos h0]; exact .nil
    · rw [if_neg h0]
      obtain ⟨hN1, hN2, hN3⟩ := bandN_spec Q S n n 1 (by omega)
      have hN4 := bandN_max Q S n n 1 (by omega)
      generalize bandN Q S n n 1 = N at hN1 hN2 hN3 hN4
      have ih := rowsQ_sorted f (shN N P) (shN N Q) (shN N R) (shN N S) (n - N) (by omega) (fun i hi => hv (N + i) (by omega)) (fun i j hij hj => ho (N + i) (N + j) (by omega) (by omega))
      have v0 := rvB_t (hv 0 (by omega))
      have hfar : ∀ i, N ≤ i → i < n → S 0 ≤ Q i := fun i h1 h2 => by
        have g1 : S 0 ≤ Q N := by
          rcases ho 0 N (by omega) (by omega) with h | h
          · exact absurd ⟨h.1.symm, h.2.symm⟩ (hN4 (by omega))
          · exact h
        by_cases e : i = N
        · rw [e]; exact g1
        · have vN := rvB_t (hv N (by omega))
          rcases ho N i (by omega) h2 with h | h <;> omega
      refine List.pairwise_append.2 ⟨?_, ih, fun e he e' he' => ?_⟩
      · unfold bandRows
        exact List.pairwise_map.2 (List.pairwise_lt_range.imp fun {a b} h => by dsimp only; omega)
      · obtain ⟨j, hj, rfl⟩ := List.mem_map.1 he
        have hj' := List.mem_range.1 hj
        obtain ⟨i', k1, k2, k3⟩ := rowsQ_mem f _ _ _ _ _ e' (fun i hi => hv (N + i) (by omega)) he'
        replace k2 : Q (N + i') ≤ e'.1 := k2
        have k4 := hfar (N + i') (by omega) (by omega)
        dsimp only
        omega
theorem rowsQ_inc {P Q R S : Nat → Int} {n : Nat} (hok : okR P Q R S n = true) : (rowsQ n P Q R S n).Pairwise (fun e e' => e.1 < e'.1) :=
  rowsQ_sorted n P Q R S n (Nat.le_refl _) (okR_all hok) (fun i j hij hj => (okR_ord hok hij hj).imp (fun h => ⟨h.1, h.2.1⟩) id)
theorem rowsQ_side {P Q R S : Nat → Int} {n : Nat} (hok : okR P Q R S n = true) {o : Nat} (ho : o = 2 ∨ o = 3) {c t : Int} (h : gS (covF P Q R S n) o c t = true) : ∃ e, e ∈ rowsQ n P Q R S n ∧ e.1 = t := by
  apply Classical.byContradiction
  intro hn
  have hz := rowsQ_all hok t (fun e he h1 => hn ⟨e, he, h1⟩)
  rcases ho with rfl | rfl
  · have := gS_c.2.2.1 h; rw [hz] at this; cases this
  · have := gS_c.2.2.2 h; rw [hz] at this; cases this

/-- The sides of the rows that have come. -/
def dnP (f : Nat → Bool) (ps : List RowE) (o : Nat) (c t : Int) : Bool := gS f o c t && ps.any (fun e => decide (e.1 = t))
theorem dnP_nil (f : Nat → Bool) (o : Nat) (c t : Int) : dnP f [] o c t = false := by simp [dnP]
theorem dnP_row {f : Nat → Bool} {L ps post : List RowE} {e : RowE} (hL : L = ps ++ e :: post) (hs : L.Pairwise (fun e e' => e.1 < e'.1)) (hall : ∀ {o : Nat} {c t : Int}, o = 2 ∨ o = 3 → gS f o c t = true → ∃ e, e ∈ L ∧ e.1 = t) {o : Nat} (ho : o = 2 ∨ o = 3) (c t : Int) :
    dn f e.1 0 o c t = dnP f ps o c t ∧ dnP f (ps ++ [e]) o c t = dn f e.1 (runsL f e.1).length o c t := by
  cases hg : gS f o c t with
  | false => simp [dn, dnP, hg]
  | true =>
    obtain ⟨e1, he1, rfl⟩ := hall ho hg
    rw [hL, List.pairwise_append, List.pairwise_cons] at hs
    obtain ⟨s1, ⟨s2, s3⟩, s4⟩ := hs
    have hrun := run_all ho hg
    simp only [dn, dnP, hg, Bool.true_and, List.take_zero, List.not_mem_nil, decide_false, Bool.and_false, Bool.or_false, List.take_length, List.any_append, List.any_cons, List.any_nil]
    rw [hL] at he1
    rcases List.mem_append.1 he1 with h1 | h1
    · have h2 := s4 e1 h1 e (by simp)
      have h3 : ps.any (fun e => decide (e.1 = e1.1)) = true := List.any_eq_true.2 ⟨e1, h1, by simp⟩
      rw [h3, decide_eq_true h2]
      simp
    · have h3 : ps.any (fun e => decide (e.1 = e1.1)) = false := by
        rw [List.any_eq_false]
        intro e2 he2
        have := s4 e2 he2 e1 h1
        simp; omega
      rcases List.mem_cons.1 h1 with rfl | h1
      · rw [h3, decide_eq_false (by omega)]
        simp [hrun]
      · have h2 := s2 e1 h1
        rw [h3, decide_eq_false (by omega), decide_eq_false (by omega), decide_eq_false (by omega)]
        simp
theorem dnP_all {f : Nat → Bool} {L : List RowE} (hall : ∀ {o : Nat} {c t : Int}, o = 2 ∨ o = 3 → gS f o c t = true → ∃ e, e ∈ L ∧ e.1 = t) {o : Nat} (ho : o = 2 ∨ o = 3) (c t : Int) : dnP f L o c t = gS f o c t := by
  cases hg : gS f o c t with
  | false => simp [dnP, hg]
  | true =>
    obtain ⟨e1, he1, rfl⟩ := hall ho hg
    simp only [dnP, hg, Bool.true_and]
    exact List.any_eq_true.2 ⟨e1, he1, by simp⟩
end Go.Proofs.YtfbalpkjcfdakaaGreatDoor

namespace Go.Proofs.YtfbalpkjcfdakaaGreatDoor
open Go.RowKit Go.Shelf
set_option linter.unusedVariables false
set_option linter.unusedSimpArgs false
attribute [local go_sem] Oper.semAt_some

set_option maxRecDepth 100000 in
set_option maxHeartbeats 8000000 in
theorem rowsOf_seqU (X : Nat → Prop) (n0 : Nat) (U : TypeId → Prop) (hUc : ¬ U 84) (B0 : Nat) (a : Option Addr) (n c f : Nat) (P Q R S : Nat → Int) (W : World) (h0 : W.cell? ⟨B0, 0, none⟩ = some (.slice a n c)) (hX : ∀ k, X k → k < W.heap.size)
    (hn : n ≤ 1048576) (hc : n ≤ c) (hf : n ≤ f) (hR : RectsIs W.heap.size W a n P Q R S) (hXa : 0 < n → ∀ b off, a = some ⟨b, off, none⟩ → ¬ X b ∧ b < n0) (hv : ∀ i, i < n → rvB (P i) (Q i) (R i) (S i) = true) :
    SeqU Tryz.prog 164 #[.pointer (some ⟨B0, 0, none⟩)] (fun e : RowE => #[.int .i64 e.1, colV e.2.1 e.2.2]) X n0 U (fun _ => False) (rowsQ f P Q R S n) W := by
  intro l J Jx hJ hJx hY hJ0
  obtain ⟨L, hL⟩ : ∃ L, L = rowsQ f P Q R S n := ⟨_, rfl⟩
  rw [← hL] at hY ⊢
  go_enter Tryz.func164, Tryz.ntmps164
  go_step3
  go_wp2_with fail
  go_step3
  go_wp2_with fail
  go_loopw [3] (fun s3 wr => ∃ (a' : Option Addr) (n' c' f' : Nat) (P' Q' R' S' : Nat → Int) (pre : List RowE), s3 = .slice a' n' c' ∧ n' ≤ 1048576 ∧ n' ≤ c' ∧ n' ≤ f' ∧ RectsIs wr.heap.size wr a' n' P' Q' R' S' ∧ (0 < n' → ∀ b off, a' = some ⟨b, off, none⟩ → ¬ X b ∧ b < n0) ∧ (∀ i, i < n' → rvB (P' i) (Q' i) (R' i) (S' i) = true) ∧
    L = pre ++ rowsQ f' P' Q' R' S' n' ∧ J pre wr ∧ W.heap.size ≤ wr.heap.size) (fun s3 _ => match s3 with | .slice _ m _ => m | _ => 0)
  case atStart => exact ⟨a, n, c, f, P, Q, R, S, [], rfl, hn, hc, hf, hR, hXa, hv, hL, hJ0, Nat.le_refl _⟩
  case round =>
    obtain ⟨a', n', c', f', P', Q', R', S', pre, rfl, g1, g2, g3, hR', hX', hv', hL', hJp, hsz⟩ := hrel
    by_cases hn0 : n' = 0
    · subst hn0
      rw [rowsQ_nil, List.append_nil] at hL'
      subst hL'
      go_wp2_with fail
      rw [Exit.noGoto_normal]
      go_end0
      exact ⟨⟨_, rfl⟩, .inl hJp⟩
    · obtain ⟨b, o, rfl, hb, t0, t1, t2, t3⟩ := hR' 0 (by omega)
      simp only [Nat.zero_mul, Nat.add_zero] at t0 t1 t2 t3
      obtain ⟨f1, rfl⟩ : ∃ f1, f' = f1 + 1 := ⟨f' - 1, by omega⟩
      have hbs := bandN_spec Q' S' n' n' 1 (by omega)
      have hfb := fun w' (hw : RectsIs w'.heap.size w' (some ⟨b, o, none⟩) n' P' Q' R' S') => firstBand_any b o n' c' P' Q' R' S' w' g1 (by omega) g2 hw
      rw [rowsQ, if_neg hn0] at hL'
      obtain ⟨N, hN⟩ : ∃ N, N = bandN Q' S' n' n' 1 := ⟨_, rfl⟩
      rw [← hN] at hL' hbs hfb
      obtain ⟨hN1, hN2, hN3⟩ := hbs
      obtain ⟨A, hA⟩ : ∃ A, A = cA P' R' N := ⟨_, rfl⟩
      obtain ⟨Bw, hB⟩ : ∃ Bw, Bw = cB P' R' N := ⟨_, rfl⟩
      have hcl := fun w' (hw : RectsIs w'.heap.size w' (some ⟨b, o, none⟩) N P' Q' R' S') => cols_any (some ⟨b, o, none⟩) N c' P' Q' R' S' w' (by omega) hw (fun i hi => hv' i (by omega))
      rw [← hA, ← hB] at hL'
      simp only [← hA, ← hB] at hcl
      have HR' := Lib.hid hR'
      have HL' := Lib.hid hL'
      have q1 : (0 : Int) < (n' : Int) := by omega
      have q2 : (0 : Int) < (N : Int) := by omega
      have hXb : ¬ X b ∧ b < n0 := hX' (by omega) b o rfl
      have v0 := rvB_t (hv' 0 (by omega))
      clear hN hA hB hR' hL' hX'
      go_wp2_with (first | (go_at_call 165; refine (hfb _ HR'.out).mono ?_; rintro e w1 ⟨rfl, bw1⟩) | (go_at_call 166; refine (hcl _ ((HR'.out.ext bw1).front hN2)).mono ?_; rintro e w2 ⟨rfl, bw2⟩; have bw := Ext.trans bw1 bw2; have lb : b < w2.heap.size := Nat.lt_of_lt_of_le hb bw.size; have t1' := (bw.cell (p := ⟨b, o + 1, none⟩) hb).trans t1; have t3' := (bw.cell (p := ⟨b, o + 3, none⟩) hb).trans t3))
      have hWw : W.heap.size ≤ w2.heap.size := Nat.le_trans hsz bw.size
      have hXg : ¬ X w2.heap.size := fun h => by have := hX _ h; omega
      have hRw : RectsIs (w2.alloc (.cells #[.int .u64 (A : Int), .int .u64 (Bw : Int)] 84)).heap.size (w2.alloc (.cells #[.int .u64 (A : Int), .int .u64 (Bw : Int)] 84)) (some ⟨b, o, none⟩) n' P' Q' R' S' := HR'.out.ext (Ext.alloc bw _)
      have hCw : ColAt (w2.alloc (.cells #[.int .u64 (A : Int), .int .u64 (Bw : Int)] 84)) w2.heap.size A Bw := ColAt.new w2 A Bw _
      have hJw : J pre (w2.alloc (.cells #[.int .u64 (A : Int), .int .u64 (Bw : Int)] 84)) := hJ _ _ _ hJp (StepX.of_below hsz (Ext.alloc bw _))
      have hsw : W.heap.size ≤ (w2.alloc (.cells #[.int .u64 (A : Int), .int .u64 (Bw : Int)] 84)).heap.size := by simp; omega
      have hbw : b < (w2.alloc (.cells #[.int .u64 (A : Int), .int .u64 (Bw : Int)] 84)).heap.size := by simp; omega
      obtain ⟨g, hg⟩ : ∃ g, g = w2.heap.size := ⟨_, rfl⟩
      rw [← hg] at hXg hCw ⊢
      obtain ⟨wv, hwv⟩ : ∃ wv, wv = (w2.alloc (.cells #[.int .u64 (A : Int), .int .u64 (Bw : Int)] 84)) := ⟨_, rfl⟩
      rw [← hwv] at hRw hCw hJw hsw hbw ⊢
      have HRw := Lib.hid hRw
      have HCw := Lib.hid hCw
      have hXG : ¬ Ex X n0 U wv g := Ex.not_type hXg (fun cs t e => by
        rw [hwv, hg, heap_alloc_new w2 _] at e
        cases e
        exact hUc)
      clear hwv hRw hCw t1' t3' lb bw bw1 bw2 t0 t1 t2 t3 hg
      obtain ⟨M, hM⟩ : ∃ M, M = (S' 0 - Q' 0).toNat := ⟨_, rfl⟩
      have hM1 : Q' 0 + (M : Int) = S' 0 := by omega
      have HL2 : Hid (L = pre ++ (bandRows (Q' 0) M A Bw ++ rowsQ f1 (shN N P') (shN N Q') (shN N R') (shN N S') (n' - N))) := by rw [hM]; exact HL'
      have HM := Lib.hid hM1
      clear hM hM1 HL'
      go_loopw [6] (fun s6 wr => ∃ j : Nat, j ≤ M ∧ s6 = .int .i64 (Q' 0 + (j : Int)) ∧ J (pre ++ bandRows (Q' 0) j A Bw) wr ∧ W.heap.size ≤ wr.heap.size ∧ Kept (Ex X n0 U wv) wv wr) (fun s6 _ => (S' 0 - intOf s6).toNat)
      case atStart => exact ⟨0, by omega, by simp, by simpa [bandRows] using hJw, hsw, Kept.refl _ _⟩
      case round =>
        obtain ⟨j, hj, rfl, hJq, hsq, hkq⟩ := hrel
        obtain ⟨b1, o1, hbo, hbq, -, -, -, u3⟩ := HRw.out.kept hkq (fun b' off' e => by cases e; exact Ex.not_lt hXb.1 hXb.2) 0 (by omega)
        obtain ⟨rfl, rfl⟩ : b = b1 ∧ o = o1 := by simpa using hbo
        simp only [Nat.zero_mul, Nat.add_zero] at u3
        obtain ⟨d0, d1, d2, d3⟩ := HCw.out.keptX hkq hXG
        clear hbo
        by_cases hjM : j < M
        · have q3 : Q' 0 + (j : Int) < S' 0 := by have := HM.out; omega
          have hLq : L = (pre ++ bandRows (Q' 0) j A Bw) ++ (Q' 0 + (j : Int), A, Bw) :: (((List.range (M - j - 1)).map (fun k => j + 1 + k)).map (fun j : Nat => (Q' 0 + (j : Int), A, Bw)) ++ rowsQ f1 (shN N P') (shN N Q') (shN N R') (shN N S') (n' - N)) := by
            rw [HL2.out, bandRows_split hjM]
            simp only [List.append_assoc, List.cons_append]
          obtain ⟨fn, tmps, assign, body, hy, hR8⟩ := hY _ _ _ wr hLq hJq hsq 8
          dsimp only at hy
          go_upto_region 7 with fail
          refine (wpIn_wide (n := 9)).1 ?_
          gi_wp2
          refine hR8.mono ?_
          rintro e W3 (⟨rfl, hJ3, hk3⟩ | ⟨rfl, hJx3, -⟩)
          · gi_wp2
            go_wp2_with fail
            go_roundw
            case rel => exact ⟨j + 1, hjM, by go_num, by rw [bandRows_succ, ← List.append_assoc]; exact hJ3, Nat.le_trans hsq hk3.size, hkq.transU hk3 (fun k h => h) (fun k h => h)⟩
            case measure => simp [intOf]; omega
          · gi_wp2
            go_wp2_with fail
            rw [Exit.noGoto_normal]
            go_end0
            exact ⟨⟨_, rfl⟩, .inr ⟨_, ⟨_, by rw [hLq]; simp only [List.append_assoc, List.cons_append, List.nil_append]; rfl⟩, hJx3⟩⟩
        · have q3 : ¬ Q' 0 + (j : Int) < S' 0 := by have := HM.out; omega
          obtain rfl : j = M := by omega
          have HR9 := Lib.hid (HRw.out.kept hkq (fun b' off' e => by cases e; exact Ex.not_lt hXb.1 hXb.2))
          have hL9 : L = (pre ++ bandRows (Q' 0) j A Bw) ++ rowsQ f1 (shN N P') (shN N Q') (shN N R') (shN N S') (n' - N) := by rw [HL2.out, List.append_assoc]
          have HL9 := Lib.hid hL9
          clear hL9
          have q5 : (N : Int) ≤ (n' : Int) := by omega
          have q6 : (0 : Int) ≤ (N : Int) := by omega
          by_cases hNc : N = c'
          · have hn9 : n' = N := by omega
            subst hn9
            subst hNc
            go_wp2_with fail
            go_roundw
            case rel => exact ⟨some ⟨b, o, none⟩, 0, 0, f1, shN n' P', shN n' Q', shN n' R', shN n' S', _, by simp, by omega, by omega, by omega, RectsIs.zero, fun _ b' off' e => by cases e; exact hXb, fun i hi => absurd hi (by omega), by have := HL9.out; rwa [Nat.sub_self] at this, hJq, hsq⟩
            case measure => simp; omega
          · go_wp2_with fail
            go_roundw
            case rel => exact ⟨some ⟨b, o + N * 4, none⟩, n' - N, c' - N, f1, shN N P', shN N Q', shN N R', shN N S', _, by simp, by omega, by omega, by omega, HR9.out.shift N, fun _ b' off' e => by cases e; exact hXb, fun i hi => hv' (N + i) (by omega), HL9.out, hJq, hsq⟩
            case measure => simp; omega
end Go.Proofs.YtfbalpkjcfdakaaGreatDoor

namespace Go.Proofs.YtfbalpkjcfdakaaGreatDoor
open Go.RowKit
set_option linter.unusedVariables false
set_option linter.unusedSimpArgs false
attribute [local go_sem ↓] Go.wp_at_zero Go.wp_at_succ

/-- An edge's block. -/
abbrev eObj (e : R4) : Obj := .cells #[.int .i64 e.a, .int .i64 e.b, .int .i64 e.c, .int .i64 e.d] 55

theorem eObj_cells {w : World} {b : Nat} {e : R4} (h : w.heap[b]? = some (eObj e)) : (w.cell? ⟨b, 0, none⟩ = some (.int .i64 e.a) ∧ w.cell? ⟨b, 1, none⟩ = some (.int .i64 e.b) ∧ w.cell? ⟨b, 2, none⟩ = some (.int .i64 e.c) ∧ w.cell? ⟨b, 3, none⟩ = some (.int .i64 e.d)) ∧
    (w.frozen? ⟨b, 0, none⟩ = false ∧ w.frozen? ⟨b, 1, none⟩ = false ∧ w.frozen? ⟨b, 2, none⟩ = false ∧ w.frozen? ⟨b, 3, none⟩ = false) := by
  simp [World.cell?, World.frozen?, h]
theorem eObj_set {w : World} {b : Nat} {e : R4} (h : w.heap[b]? = some (eObj e)) (g : R4) : ((((w.setCell ⟨b, 0, none⟩ (.int .i64 g.a)).setCell ⟨b, 1, none⟩ (.int .i64 g.b)).setCell ⟨b, 2, none⟩ (.int .i64 g.c)).setCell ⟨b, 3, none⟩ (.int .i64 g.d)).heap[b]? = some (eObj g) := by
  simp [World.setCell, Array.getElem?_modify, h]
set_option maxRecDepth 100000 in
set_option maxHeartbeats 8000000 in
theorem extend_1 (b : Nat) (e s : R4) (w : World) (hb : w.heap[b]? = some (eObj e)) (h1 : s.a = e.c) (h2 : s.b = e.d) :
    Calls Tryz.prog 151 #[.pointer (some ⟨b, 0, none⟩), eV s] w fun r w' => r = .returned (.bool true) ∧ w'.heap[b]? = some (eObj ⟨e.a, e.b, s.c, s.d⟩) ∧ Kept (fun k => k = b) w w' := by
  obtain ⟨sa, sb, sc, sd⟩ := s
  obtain ⟨a, b', c, d⟩ := e
  simp only at h1 h2 hb ⊢
  subst h1 h2
  have hE : ∀ w, (Op.equalIn 10000 107 (.agg #[.int .i64 sa, .int .i64 sb]) (.agg #[.int .i64 sa, .int .i64 sb])).run Tryz.prog w = .ok true w := fun w => by rw [eqPt2]; simp
  dsimp only [eV]
  go_enter Tryz.func151, Tryz.ntmps151
  go_wp2_with fail
  obtain ⟨v, hv⟩ : ∃ v, v = w.alloc (.cells #[.int .i64 sa, .int .i64 sb, .int .i64 sc, .int .i64 sd] 55) := ⟨_, rfl⟩
  have Bv : Below w.heap.size w v := by rw [hv]; (repeat (first | (with_reducible exact Below.refl _ _) | (with_reducible refine Ext.drewN ?_ _) | (with_reducible refine Below.drew ?_) | (with_reducible refine Ext.alloc ?_ _) | (with_reducible refine Ext.setCell ?_ (by simp; try omega) _) | (with_reducible refine Ext.trans ?_ (by assumption)) | (with_reducible assumption) | exact Below.refl _ _))
  have hvs : v.heap[w.heap.size]? = some (eObj ⟨sa, sb, sc, sd⟩) := by rw [hv]; exact heap_alloc_new w _
  have hbl : b < w.heap.size := (Array.getElem?_eq_some_iff.1 hb).1
  have hvb : v.heap[b]? = some (eObj ⟨a, b', sa, sb⟩) := (Bv.block b hbl).trans hb
  rw [← hv]
  clear hv hb
  have hS : ∀ w', Below v.heap.size v w' → w'.heap[w.heap.size]? = some (eObj ⟨sa, sb, sc, sd⟩) := fun w' h => (h.block _ (Array.getElem?_eq_some_iff.1 hvs).1).trans hvs
  have hEb : ∀ w', Below v.heap.size v w' → w'.heap[b]? = some (eObj ⟨a, b', sa, sb⟩) := fun w' h => (h.block _ (Array.getElem?_eq_some_iff.1 hvb).1).trans hvb
  have x0 : ∀ w', Below v.heap.size v w' → w'.cell? ⟨w.heap.size, 0, none⟩ = some (.int .i64 sa) := fun w' h => (eObj_cells (hS w' h)).1.1
  have x1 : ∀ w', Below v.heap.size v w' → w'.cell? ⟨w.heap.size, 1, none⟩ = some (.int .i64 sb) := fun w' h => (eObj_cells (hS w' h)).1.2.1
  have x2 : ∀ w', Below v.heap.size v w' → w'.cell? ⟨w.heap.size, 2, none⟩ = some (.int .i64 sc) := fun w' h => (eObj_cells (hS w' h)).1.2.2.1
  have x3 : ∀ w', Below v.heap.size v w' → w'.cell? ⟨w.heap.size, 3, none⟩ = some (.int .i64 sd) := fun w' h => (eObj_cells (hS w' h)).1.2.2.2
  have y0 : ∀ w', Below v.heap.size v w' → w'.cell? ⟨b, 0, none⟩ = some (.int .i64 a) := fun w' h => (eObj_cells (hEb w' h)).1.1
  have y1 : ∀ w', Below v.heap.size v w' → w'.cell? ⟨b, 1, none⟩ = some (.int .i64 b') := fun w' h => (eObj_cells (hEb w' h)).1.2.1
  have y2 : ∀ w', Below v.heap.size v w' → w'.cell? ⟨b, 2, none⟩ = some (.int .i64 sa) := fun w' h => (eObj_cells (hEb w' h)).1.2.2.1
  have y3 : ∀ w', Below v.heap.size v w' → w'.cell? ⟨b, 3, none⟩ = some (.int .i64 sb) := fun w' h => (eObj_cells (hEb w' h)).1.2.2.2
  have HS := Lib.hid hS
  have HEb := Lib.hid hEb
  clear hS hEb hvs hvb
  go_region_held3 (fun w' => Below v.heap.size v w')
    (((repeat (first | (with_reducible exact Below.refl _ _) | (with_reducible refine Ext.drewN ?_ _) | (with_reducible refine Below.drew ?_) | (with_reducible refine Ext.alloc ?_ _) | (with_reducible refine Ext.setCell ?_ (by simp; try omega) _) | (with_reducible refine Ext.trans ?_ (by assumption)) | (with_reducible assumption) | exact Below.refl _ _)); done))
    (first | (go_at_call 79; refine (eBegin_any sa sb sc sd _).mono ?_; rintro r v1 ⟨rfl, bv1⟩; have s1 := bv1.size) | (go_at_call 80; refine (eEnd_any a b' sa sb _).mono ?_; rintro r v2 ⟨rfl, bv2⟩; have s2 := bv2.size))
  go_upto_region 3 with fail
  refine (wpIn_wide (n := 9)).1 ?_
  gi_wp2
  refine regionT (S := fun w' => Below v.heap.size v w') (tl := fun i => i == 9) (by kernel_rfl) ?_
  have hS := (show Below v.heap.size v v2.drew by (repeat (first | (with_reducible exact Below.refl _ _) | (with_reducible refine Ext.drewN ?_ _) | (with_reducible refine Below.drew ?_) | (with_reducible refine Ext.alloc ?_ _) | (with_reducible refine Ext.setCell ?_ (by simp; try omega) _) | (with_reducible refine Ext.trans ?_ (by assumption)) | (with_reducible assumption) | exact Below.refl _ _)))
  refine takeT (i := 0) (.pointer (some ⟨b, 0, none⟩)) rfl (by kernel_rfl) (by kernel_rfl) (by kernel_rfl) (by kernel_rfl) (by kernel_rfl) (fun _ _ _ h => h) (by rfl) ?_ (fun _ => rfl) hS ?_
  · intro w' h9
    simp [go_sem, Act.put]
  simp only [go_sem, Act.put, List.getElem_toArray, List.getElem_cons_succ, List.getElem_cons_zero, List.setIfInBounds_toArray, List.set_cons_succ, List.set_cons_zero]
  refine takeT (i := 1) (.pointer (some ⟨b, 0, none⟩)) rfl (by kernel_rfl) (by kernel_rfl) (by kernel_rfl) (by kernel_rfl) (by kernel_rfl) (fun _ _ _ h => h) (by rfl) ?_ (fun _ => rfl) hS ?_
  · intro w' h9
    simp [go_sem, Act.put]
  simp only [go_sem, Act.put, List.getElem_toArray, List.getElem_cons_succ, List.getElem_cons_zero, List.setIfInBounds_toArray, List.set_cons_succ, List.set_cons_zero]
  refine takeT (i := 5) (.agg #[.int .i64 sa, .int .i64 sb, .int .i64 sc, .int .i64 sd]) rfl (by kernel_rfl) (by kernel_rfl) (by kernel_rfl) (by kernel_rfl) (by kernel_rfl) (fun _ _ _ h => h) (by rfl) ?_ (fun _ => rfl) hS ?_
  · intro w' h9
    simp [go_sem, Act.put, x0 _ h9, x1 _ h9, x2 _ h9, x3 _ h9, y0 _ h9, y1 _ h9, y2 _ h9, y3 _ h9]
  simp only [go_sem, Act.put, List.getElem_toArray, List.getElem_cons_succ, List.getElem_cons_zero, List.setIfInBounds_toArray, List.set_cons_succ, List.set_cons_zero]
  refine takeT (i := 2) (.pointer (some ⟨b, 0, none⟩)) rfl (by kernel_rfl) (by kernel_rfl) (by kernel_rfl) (by kernel_rfl) (by kernel_rfl) (fun _ _ _ h => h) (by rfl) ?_ (fun _ => rfl) hS ?_
  · intro w' h9
    simp [go_sem, Act.put]
  simp only [go_sem, Act.put, List.getElem_toArray, List.getElem_cons_succ, List.getElem_cons_zero, List.setIfInBounds_toArray, List.set_cons_succ, List.set_cons_zero]
  refine takeT (i := 3) (.agg #[.int .i64 a, .int .i64 b', .int .i64 sa, .int .i64 sb]) rfl (by kernel_rfl) (by kernel_rfl) (by kernel_rfl) (by kernel_rfl) (by kernel_rfl) (fun _ _ _ h => h) (by rfl) ?_ (fun _ => rfl) hS ?_
  · intro w' h9
    simp [go_sem, Act.put, x0 _ h9, x1 _ h9, x2 _ h9, x3 _ h9, y0 _ h9, y1 _ h9, y2 _ h9, y3 _ h9]
  simp only [go_sem, Act.put, List.getElem_toArray, List.getElem_cons_succ, List.getElem_cons_zero, List.setIfInBounds_toArray, List.set_cons_succ, List.set_cons_zero]
  refine oneN (i := 4) (by kernel_rfl) (wpOpIn_step rfl fun K' hK' => ?_)
  rw [if_pos (by rfl)]
  refine ⟨fun _ _ => trivial, ?_⟩
  simp only [go_sem, Act.put]
  simp [go_sem, enters_of Tryz.func79 (by kernel_rfl) rfl]
  refine (callsIn_wide.2 (eBegin_any a b' sa sb _)).mono ?_
  rintro r u ⟨rfl, bu⟩
  replace hS := Below.trans hS (bu.mono hS.size)
  clear bu
  dsimp only
  refine hK' _ _ ⟨hS, ?_⟩
  clear hK'
  refine oneN (i := 6) (by kernel_rfl) (wpOpIn_step rfl fun K' hK' => ?_)
  rw [if_pos (by rfl)]
  refine ⟨fun _ _ => trivial, ?_⟩
  simp only [go_sem, Act.put]
  simp [go_sem, enters_of Tryz.func80 (by kernel_rfl) rfl]
  refine (callsIn_wide.2 (eEnd_any sa sb sc sd _)).mono ?_
  rintro r u ⟨rfl, bu⟩
  replace hS := Below.trans hS (bu.mono hS.size)
  clear bu
  dsimp only
  refine hK' _ _ ⟨hS, ?_⟩
  clear hK'
  refine oneN (i := 7) (by kernel_rfl) (wpOpIn_step rfl fun K' hK' => ?_)
  rw [if_pos (by rfl)]
  refine ⟨fun _ _ => trivial, ?_⟩
  simp only [go_sem, Act.put]
  simp [go_sem, enters_of Tryz.func109 (by kernel_rfl) rfl]
  refine (callsIn_wide.2 (edgeBetween_any a b' sc sd _)).mono ?_
  rintro r u ⟨rfl, bu⟩
  replace hS := Below.trans hS (bu.mono hS.size)
  clear bu
  dsimp only
  refine hK' _ _ ⟨hS, ?_⟩
  clear hK'
  refine takeT (i := 8) (.pointer (some ⟨b, 0, none⟩)) rfl (by kernel_rfl) (by kernel_rfl) (by kernel_rfl) (by kernel_rfl) (by kernel_rfl) (fun _ _ _ h => h) (by rfl) ?_ (fun _ => rfl) hS ?_
  · intro w' h9
    simp [go_sem, Act.put]
  simp only [go_sem, Act.put, List.getElem_toArray, List.getElem_cons_succ, List.getElem_cons_zero, List.setIfInBounds_toArray, List.set_cons_succ, List.set_cons_zero]
  refine oneT (i := 9) (by kernel_rfl) rfl (wpOpIn_step rfl fun K' hK' => ?_)
  rw [if_pos (by rfl)]
  refine ⟨fun _ _ => trivial, ?_⟩
  obtain ⟨f0, f1, f2, f3⟩ := (eObj_cells (HEb.out _ hS)).2
  have z0 := y0 _ hS
  have z1 := y1 _ hS
  have z2 := y2 _ hS
  have z3 := y3 _ hS
  simp [go_sem, Act.put, f0, f1, f2, f3, z0, z1, z2, z3]
  refine hK' _ _ ?_
  clear hK'
  refine doneT (by kernel_rfl) ?_ _
  gi_wp2
  go_wp2_with fail
  go_ret
  have K0 := Kept.of_below (X := fun k => k = b) (Ext.trans Bv hS)
  refine ⟨rfl, eObj_set (HEb.out _ hS) ⟨a, b', sc, sd⟩, ?_⟩
  exact (((K0.setCell (p := ⟨b, 0, none⟩) (show b = b from rfl) _).setCell (p := ⟨b, 1, none⟩) (show b = b from rfl) _).setCell (p := ⟨b, 2, none⟩) (show b = b from rfl) _).setCell (p := ⟨b, 3, none⟩) (show b = b from rfl) _

set_option maxRecDepth 100000 in
set_option maxHeartbeats 8000000 in
theorem extend_2 (b : Nat) (e s : R4) (w : World) (hb : w.heap[b]? = some (eObj e)) (h0 : ¬ (s.a = e.c ∧ s.b = e.d)) (h1 : e.a = s.c) (h2 : e.b = s.d) :
    Calls Tryz.prog 151 #[.pointer (some ⟨b, 0, none⟩), eV s] w fun r w' => r = .returned (.bool true) ∧ w'.heap[b]? = some (eObj ⟨s.a, s.b, e.c, e.d⟩) ∧ Kept (fun k => k = b) w w' := by
  obtain ⟨sa, sb, sc, sd⟩ := s
  obtain ⟨a, b', c, d⟩ := e
  simp only at h0 h1 h2 hb ⊢
  subst h1 h2
  have hE : ∀ w, (Op.equalIn 10000 107 (.agg #[.int .i64 sa, .int .i64 sb]) (.agg #[.int .i64 c, .int .i64 d])).run Tryz.prog w = .ok false w := fun w => by rw [eqPt2]; have : (sa == c && sb == d) = false := (by rw [Bool.eq_false_iff]; intro h; simp at h; exact h0 h); rw [this]
  have hE2 : ∀ w, (Op.equalIn 10000 107 (.agg #[.int .i64 a, .int .i64 b']) (.agg #[.int .i64 a, .int .i64 b'])).run Tryz.prog w = .ok true w := fun w => by rw [eqPt2]; simp
  dsimp only [eV]
  go_enter Tryz.func151, Tryz.ntmps151
  go_wp2_with fail
  obtain ⟨v, hv⟩ : ∃ v, v = w.alloc (.cells #[.int .i64 sa, .int .i64 sb, .int .i64 a, .int .i64 b'] 55) := ⟨_, rfl⟩
  have Bv : Below w.heap.size w v := by rw [hv]; (repeat (first | (with_reducible exact Below.refl _ _) | (with_reducible refine Ext.drewN ?_ _) | (with_reducible refine Below.drew ?_) | (with_reducible refine Ext.alloc ?_ _) | (with_reducible refine Ext.setCell ?_ (by simp; try omega) _) | (with_reducible refine Ext.trans ?_ (by assumption)) | (with_reducible assumption) | exact Below.refl _ _))
  have hvs : v.heap[w.heap.size]? = some (eObj ⟨sa, sb, a, b'⟩) := by rw [hv]; exact heap_alloc_new w _
  have hbl : b < w.heap.size := (Array.getElem?_eq_some_iff.1 hb).1
  have hvb : v.heap[b]? = some (eObj ⟨a, b', c, d⟩) := (Bv.block b hbl).trans hb
  rw [← hv]
  clear hv hb
  have hS : ∀ w', Below v.heap.size v w' → w'.heap[w.heap.size]? = some (eObj ⟨sa, sb, a, b'⟩) := fun w' h => (h.block _ (Array.getElem?_eq_some_iff.1 hvs).1).trans hvs
  have hEb : ∀ w', Below v.heap.size v w' → w'.heap[b]? = some (eObj ⟨a, b', c, d⟩) := fun w' h => (h.block _ (Array.getElem?_eq_some_iff.1 hvb).1).trans hvb
  have x0 : ∀ w', Below v.heap.size v w' → w'.cell? ⟨w.heap.size, 0, none⟩ = some (.int .i64 sa) := fun w' h => (eObj_cells (hS w' h)).1.1
  have x1 : ∀ w', Below v.heap.size v w' → w'.cell? ⟨w.heap.size, 1, none⟩ = some (.int .i64 sb) := fun w' h => (eObj_cells (hS w' h)).1.2.1
  have x2 : ∀ w', Below v.heap.size v w' → w'.cell? ⟨w.heap.size, 2, none⟩ = some (.int .i64 a) := fun w' h => (eObj_cells (hS w' h)).1.2.2.1
  have x3 : ∀ w', Below v.heap.size v w' → w'.cell? ⟨w.heap.size, 3, none⟩ = some (.int .i64 b') := fun w' h => (eObj_cells (hS w' h)).1.2.2.2
  have y0 : ∀ w', Below v.heap.size v w' → w'.cell? ⟨b, 0, none⟩ = some (.int .i64 a) := fun w' h => (eObj_cells (hEb w' h)).1.1
  have y1 : ∀ w', Below v.heap.size v w' → w'.cell? ⟨b, 1, none⟩ = some (.int .i64 b') := fun w' h => (eObj_cells (hEb w' h)).1.2.1
  have y2 : ∀ w', Below v.heap.size v w' → w'.cell? ⟨b, 2, none⟩ = some (.int .i64 c) := fun w' h => (eObj_cells (hEb w' h)).1.2.2.1
  have y3 : ∀ w', Below v.heap.size v w' → w'.cell? ⟨b, 3, none⟩ = some (.int .i64 d) := fun w' h => (eObj_cells (hEb w' h)).1.2.2.2
  have HS := Lib.hid hS
  have HEb := Lib.hid hEb
  clear hS hEb hvs hvb
  go_region_held3 (fun w' => Below v.heap.size v w')
    (((repeat (first | (with_reducible exact Below.refl _ _) | (with_reducible refine Ext.drewN ?_ _) | (with_reducible refine Below.drew ?_) | (with_reducible refine Ext.alloc ?_ _) | (with_reducible refine Ext.setCell ?_ (by simp; try omega) _) | (with_reducible refine Ext.trans ?_ (by assumption)) | (with_reducible assumption) | exact Below.refl _ _)); done))
    (first | (go_at_call 79; refine (eBegin_any sa sb a b' _).mono ?_; rintro r v1 ⟨rfl, bv1⟩; have s1 := bv1.size) | (go_at_call 80; refine (eEnd_any a b' c d _).mono ?_; rintro r v2 ⟨rfl, bv2⟩; have s2 := bv2.size))
  go_wp2_with fail
  go_region_held3 (fun w' => Below v.heap.size v w')
    (((repeat (first | (with_reducible exact Below.refl _ _) | (with_reducible refine Ext.drewN ?_ _) | (with_reducible refine Below.drew ?_) | (with_reducible refine Ext.alloc ?_ _) | (with_reducible refine Ext.setCell ?_ (by simp; try omega) _) | (with_reducible refine Ext.trans ?_ (by assumption)) | (with_reducible assumption) | exact Below.refl _ _)); done))
    (first | (go_at_call 80; refine (eEnd_any sa sb a b' _).mono ?_; rintro r v3 ⟨rfl, bv3⟩; have s3 := bv3.size) | (go_at_call 79; refine (eBegin_any a b' c d _).mono ?_; rintro r v4 ⟨rfl, bv4⟩; have s4 := bv4.size))
  go_upto_region 5 with fail
  refine (wpIn_wide (n := 9)).1 ?_
  gi_wp2
  refine regionT (S := fun w' => Below v.heap.size v w') (tl := fun i => i == 9) (by kernel_rfl) ?_
  have hS := (show Below v.heap.size v v4.drew by (repeat (first | (with_reducible exact Below.refl _ _) | (with_reducible refine Ext.drewN ?_ _) | (with_reducible refine Below.drew ?_) | (with_reducible refine Ext.alloc ?_ _) | (with_reducible refine Ext.setCell ?_ (by simp; try omega) _) | (with_reducible refine Ext.trans ?_ (by assumption)) | (with_reducible assumption) | exact Below.refl _ _)))
  refine takeT (i := 0) (.pointer (some ⟨b, 0, none⟩)) rfl (by kernel_rfl) (by kernel_rfl) (by kernel_rfl) (by kernel_rfl) (by kernel_rfl) (fun _ _ _ h => h) (by rfl) ?_ (fun _ => rfl) hS ?_
  · intro w' h9
    simp [go_sem, Act.put]
  simp only [go_sem, Act.put, List.getElem_toArray, List.getElem_cons_succ, List.getElem_cons_zero, List.setIfInBounds_toArray, List.set_cons_succ, List.set_cons_zero]
  refine takeT (i := 1) (.agg #[.int .i64 sa, .int .i64 sb, .int .i64 a, .int .i64 b']) rfl (by kernel_rfl) (by kernel_rfl) (by kernel_rfl) (by kernel_rfl) (by kernel_rfl) (fun _ _ _ h => h) (by rfl) ?_ (fun _ => rfl) hS ?_
  · intro w' h9
    simp [go_sem, Act.put, x0 _ h9, x1 _ h9, x2 _ h9, x3 _ h9, y0 _ h9, y1 _ h9, y2 _ h9, y3 _ h9]
  simp only [go_sem, Act.put, List.getElem_toArray, List.getElem_cons_succ, List.getElem_cons_zero, List.setIfInBounds_toArray, List.set_cons_succ, List.set_cons_zero]
  refine takeT (i := 3) (.pointer (some ⟨b, 0, none⟩)) rfl (by kernel_rfl) (by kernel_rfl) (by kernel_rfl) (by kernel_rfl) (by kernel_rfl) (fun _ _ _ h => h) (by rfl) ?_ (fun _ => rfl) hS ?_
  · intro w' h9
    simp [go_sem, Act.put]
  simp only [go_sem, Act.put, List.getElem_toArray, List.getElem_cons_succ, List.getElem_cons_zero, List.setIfInBounds_toArray, List.set_cons_succ, List.set_cons_zero]
  refine takeT (i := 4) (.pointer (some ⟨b, 0, none⟩)) rfl (by kernel_rfl) (by kernel_rfl) (by kernel_rfl) (by kernel_rfl) (by kernel_rfl) (fun _ _ _ h => h) (by rfl) ?_ (fun _ => rfl) hS ?_
  · intro w' h9
    simp [go_sem, Act.put]
  simp only [go_sem, Act.put, List.getElem_toArray, List.getElem_cons_succ, List.getElem_cons_zero, List.setIfInBounds_toArray, List.set_cons_succ, List.set_cons_zero]
  refine takeT (i := 5) (.agg #[.int .i64 a, .int .i64 b', .int .i64 c, .int .i64 d]) rfl (by kernel_rfl) (by kernel_rfl) (by kernel_rfl) (by kernel_rfl) (by kernel_rfl) (fun _ _ _ h => h) (by rfl) ?_ (fun _ => rfl) hS ?_
  · intro w' h9
    simp [go_sem, Act.put, x0 _ h9, x1 _ h9, x2 _ h9, x3 _ h9, y0 _ h9, y1 _ h9, y2 _ h9, y3 _ h9]
  simp only [go_sem, Act.put, List.getElem_toArray, List.getElem_cons_succ, List.getElem_cons_zero, List.setIfInBounds_toArray, List.set_cons_succ, List.set_cons_zero]
  refine oneN (i := 2) (by kernel_rfl) (wpOpIn_step rfl fun K' hK' => ?_)
  rw [if_pos (by rfl)]
  refine ⟨fun _ _ => trivial, ?_⟩
  simp only [go_sem, Act.put]
  simp [go_sem, enters_of Tryz.func79 (by kernel_rfl) rfl]
  refine (callsIn_wide.2 (eBegin_any sa sb a b' _)).mono ?_
  rintro r u ⟨rfl, bu⟩
  replace hS := Below.trans hS (bu.mono hS.size)
  clear bu
  dsimp only
  refine hK' _ _ ⟨hS, ?_⟩
  clear hK'
  refine oneN (i := 6) (by kernel_rfl) (wpOpIn_step rfl fun K' hK' => ?_)
  rw [if_pos (by rfl)]
  refine ⟨fun _ _ => trivial, ?_⟩
  simp only [go_sem, Act.put]
  simp [go_sem, enters_of Tryz.func80 (by kernel_rfl) rfl]
  refine (callsIn_wide.2 (eEnd_any a b' c d _)).mono ?_
  rintro r u ⟨rfl, bu⟩
  replace hS := Below.trans hS (bu.mono hS.size)
  clear bu
  dsimp only
  refine hK' _ _ ⟨hS, ?_⟩
  clear hK'
  refine oneN (i := 7) (by kernel_rfl) (wpOpIn_step rfl fun K' hK' => ?_)
  rw [if_pos (by rfl)]
  refine ⟨fun _ _ => trivial, ?_⟩
  simp only [go_sem, Act.put]
  simp [go_sem, enters_of Tryz.func109 (by kernel_rfl) rfl]
  refine (callsIn_wide.2 (edgeBetween_any sa sb c d _)).mono ?_
  rintro r u ⟨rfl, bu⟩
  replace hS := Below.trans hS (bu.mono hS.size)
  clear bu
  dsimp only
  refine hK' _ _ ⟨hS, ?_⟩
  clear hK'
  refine takeT (i := 8) (.pointer (some ⟨b, 0, none⟩)) rfl (by kernel_rfl) (by kernel_rfl) (by kernel_rfl) (by kernel_rfl) (by kernel_rfl) (fun _ _ _ h => h) (by rfl) ?_ (fun _ => rfl) hS ?_
  · intro w' h9
    simp [go_sem, Act.put]
  simp only [go_sem, Act.put, List.getElem_toArray, List.getElem_cons_succ, List.getElem_cons_zero, List.setIfInBounds_toArray, List.set_cons_succ, List.set_cons_zero]
  refine oneT (i := 9) (by kernel_rfl) rfl (wpOpIn_step rfl fun K' hK' => ?_)
  rw [if_pos (by rfl)]
  refine ⟨fun _ _ => trivial, ?_⟩
  obtain ⟨f0, f1, f2, f3⟩ := (eObj_cells (HEb.out _ hS)).2
  have z0 := y0 _ hS
  have z1 := y1 _ hS
  have z2 := y2 _ hS
  have z3 := y3 _ hS
  simp [go_sem, Act.put, f0, f1, f2, f3, z0, z1, z2, z3]
  refine hK' _ _ ?_
  clear hK'
  refine doneT (by kernel_rfl) ?_ _
  gi_wp2
  go_wp2_with fail
  go_ret
  have K0 := Kept.of_below (X := fun k => k = b) (Ext.trans Bv hS)
  refine ⟨rfl, eObj_set (HEb.out _ hS) ⟨sa, sb, c, d⟩, ?_⟩
  exact (((K0.setCell (p := ⟨b, 0, none⟩) (show b = b from rfl) _).setCell (p := ⟨b, 1, none⟩) (show b = b from rfl) _).setCell (p := ⟨b, 2, none⟩) (show b = b from rfl) _).setCell (p := ⟨b, 3, none⟩) (show b = b from rfl) _

set_option maxRecDepth 100000 in
set_option maxHeartbeats 8000000 in
theorem extend_0 (b : Nat) (e s : R4) (w : World) (hb : w.heap[b]? = some (eObj e)) (h0 : ¬ (s.a = e.c ∧ s.b = e.d)) (h3 : ¬ (s.c = e.a ∧ s.d = e.b)) :
    Calls Tryz.prog 151 #[.pointer (some ⟨b, 0, none⟩), eV s] w fun r w' => r = .returned (.bool false) ∧ Below w.heap.size w w' := by
  obtain ⟨sa, sb, sc, sd⟩ := s
  obtain ⟨a, b', c, d⟩ := e
  simp only at h0 h3 hb ⊢
  have hE : ∀ w, (Op.equalIn 10000 107 (.agg #[.int .i64 sa, .int .i64 sb]) (.agg #[.int .i64 c, .int .i64 d])).run Tryz.prog w = .ok false w := fun w => by rw [eqPt2]; have : (sa == c && sb == d) = false := (by rw [Bool.eq_false_iff]; intro h; simp at h; exact h0 h); rw [this]
  have hE2 : ∀ w, (Op.equalIn 10000 107 (.agg #[.int .i64 sc, .int .i64 sd]) (.agg #[.int .i64 a, .int .i64 b'])).run Tryz.prog w = .ok false w := fun w => by rw [eqPt2]; have : (sc == a && sd == b') = false := (by rw [Bool.eq_false_iff]; intro h; simp at h; exact h3 h); rw [this]
  dsimp only [eV]
  go_enter Tryz.func151, Tryz.ntmps151
  go_wp2_with fail
  obtain ⟨v, hv⟩ : ∃ v, v = w.alloc (.cells #[.int .i64 sa, .int .i64 sb, .int .i64 sc, .int .i64 sd] 55) := ⟨_, rfl⟩
  have Bv : Below w.heap.size w v := by rw [hv]; (repeat (first | (with_reducible exact Below.refl _ _) | (with_reducible refine Ext.drewN ?_ _) | (with_reducible refine Below.drew ?_) | (with_reducible refine Ext.alloc ?_ _) | (with_reducible refine Ext.setCell ?_ (by simp; try omega) _) | (with_reducible refine Ext.trans ?_ (by assumption)) | (with_reducible assumption) | exact Below.refl _ _))
  have hvs : v.heap[w.heap.size]? = some (eObj ⟨sa, sb, sc, sd⟩) := by rw [hv]; exact heap_alloc_new w _
  have hbl : b < w.heap.size := (Array.getElem?_eq_some_iff.1 hb).1
  have hvb : v.heap[b]? = some (eObj ⟨a, b', c, d⟩) := (Bv.block b hbl).trans hb
  rw [← hv]
  clear hv hb
  have hS : ∀ w', Below v.heap.size v w' → w'.heap[w.heap.size]? = some (eObj ⟨sa, sb, sc, sd⟩) := fun w' h => (h.block _ (Array.getElem?_eq_some_iff.1 hvs).1).trans hvs
  have hEb : ∀ w', Below v.heap.size v w' → w'.heap[b]? = some (eObj ⟨a, b', c, d⟩) := fun w' h => (h.block _ (Array.getElem?_eq_some_iff.1 hvb).1).trans hvb
  have x0 : ∀ w', Below v.heap.size v w' → w'.cell? ⟨w.heap.size, 0, none⟩ = some (.int .i64 sa) := fun w' h => (eObj_cells (hS w' h)).1.1
  have x1 : ∀ w', Below v.heap.size v w' → w'.cell? ⟨w.heap.size, 1, none⟩ = some (.int .i64 sb) := fun w' h => (eObj_cells (hS w' h)).1.2.1
  have x2 : ∀ w', Below v.heap.size v w' → w'.cell? ⟨w.heap.size, 2, none⟩ = some (.int .i64 sc) := fun w' h => (eObj_cells (hS w' h)).1.2.2.1
  have x3 : ∀ w', Below v.heap.size v w' → w'.cell? ⟨w.heap.size, 3, none⟩ = some (.int .i64 sd) := fun w' h => (eObj_cells (hS w' h)).1.2.2.2
  have y0 : ∀ w', Below v.heap.size v w' → w'.cell? ⟨b, 0, none⟩ = some (.int .i64 a) := fun w' h => (eObj_cells (hEb w' h)).1.1
  have y1 : ∀ w', Below v.heap.size v w' → w'.cell? ⟨b, 1, none⟩ = some (.int .i64 b') := fun w' h => (eObj_cells (hEb w' h)).1.2.1
  have y2 : ∀ w', Below v.heap.size v w' → w'.cell? ⟨b, 2, none⟩ = some (.int .i64 c) := fun w' h => (eObj_cells (hEb w' h)).1.2.2.1
  have y3 : ∀ w', Below v.heap.size v w' → w'.cell? ⟨b, 3, none⟩ = some (.int .i64 d) := fun w' h => (eObj_cells (hEb w' h)).1.2.2.2
  have HS := Lib.hid hS
  have HEb := Lib.hid hEb
  clear hS hEb hvs hvb
  go_region_held3 (fun w' => Below v.heap.size v w')
    (((repeat (first | (with_reducible exact Below.refl _ _) | (with_reducible refine Ext.drewN ?_ _) | (with_reducible refine Below.drew ?_) | (with_reducible refine Ext.alloc ?_ _) | (with_reducible refine Ext.setCell ?_ (by simp; try omega) _) | (with_reducible refine Ext.trans ?_ (by assumption)) | (with_reducible assumption) | exact Below.refl _ _)); done))
    (first | (go_at_call 79; refine (eBegin_any sa sb sc sd _).mono ?_; rintro r v1 ⟨rfl, bv1⟩; have s1 := bv1.size) | (go_at_call 80; refine (eEnd_any a b' c d _).mono ?_; rintro r v2 ⟨rfl, bv2⟩; have s2 := bv2.size))
  go_wp2_with fail
  go_region_held3 (fun w' => Below v.heap.size v w')
    (((repeat (first | (with_reducible exact Below.refl _ _) | (with_reducible refine Ext.drewN ?_ _) | (with_reducible refine Below.drew ?_) | (with_reducible refine Ext.alloc ?_ _) | (with_reducible refine Ext.setCell ?_ (by simp; try omega) _) | (with_reducible refine Ext.trans ?_ (by assumption)) | (with_reducible assumption) | exact Below.refl _ _)); done))
    (first | (go_at_call 80; refine (eEnd_any sa sb sc sd _).mono ?_; rintro r v3 ⟨rfl, bv3⟩; have s3 := bv3.size) | (go_at_call 79; refine (eBegin_any a b' c d _).mono ?_; rintro r v4 ⟨rfl, bv4⟩; have s4 := bv4.size))
  go_wp2_with fail
  go_ret
  have hU : Below v.heap.size v v4 := Ext.trans (Ext.trans (Below.drew (Ext.trans (Ext.trans (Below.drew (Below.refl _ v)) bv1) bv2)) bv3) bv4
  exact ⟨rfl, Ext.trans Bv hU⟩
end Go.Proofs.YtfbalpkjcfdakaaGreatDoor

namespace Go.Proofs.YtfbalpkjcfdakaaGreatDoor
open Go.RowKit Go.Shelf Go.Maps
set_option linter.unusedVariables false
set_option linter.unusedSimpArgs false

def EdgeT (t : TypeId) : Prop := t = 55
/-- The map in block mb, of at most k entries; the edges in blocks from n on. -/
def UpW (d : Nat → Int → Int → Bool) (mb n k : Nat) (V : World) : Prop :=
  ∃ (D : DataW Unit) (M : Int → Int → Option Nat) (Ed : Nat → R4), V.ownsMap Tryz.prog 107 ptrElem mb k D ∧ MapIs D M ∧ UpI d M Ed ∧ (∀ c t b, M c t = some b → n ≤ b ∧ V.heap[b]? = some (eObj (Ed b)))
theorem ownsMap_block {A B : World} {mb k : Nat} {D : DataW Unit} (h : A.ownsMap Tryz.prog 107 ptrElem mb k D) (hb : B.heap[mb]? = A.heap[mb]?) : B.ownsMap Tryz.prog 107 ptrElem mb k D := by
  obtain ⟨es, clock, h1, r⟩ := h
  exact ⟨es, clock, hb.trans h1, r⟩
theorem UpW.step {d : Nat → Int → Int → Bool} {mb n k : Nat} {A B : World} (h : UpW d mb n k A) (hm : B.heap[mb]? = A.heap[mb]?) (hc : ∀ b e, n ≤ b → A.heap[b]? = some (eObj e) → B.heap[b]? = A.heap[b]?) : UpW d mb n k B := by
  obtain ⟨D, M, Ed, h1, h2, h3, h4⟩ := h
  exact ⟨D, M, Ed, ownsMap_block h1 hm, h2, h3, fun c t b hb => ⟨(h4 c t b hb).1, (hc b _ (h4 c t b hb).1 (h4 c t b hb).2).trans (h4 c t b hb).2⟩⟩
theorem UpW.mapLt {d : Nat → Int → Int → Bool} {mb n k : Nat} {A : World} (h : UpW d mb n k A) : mb < A.heap.size := by
  obtain ⟨D, M, Ed, h1, h2, h3, h4⟩ := h
  exact h1.lt
theorem UpW.below {d : Nat → Int → Int → Bool} {mb n k : Nat} {A B : World} (h : UpW d mb n k A) (hb : Below A.heap.size A B) : UpW d mb n k B :=
  h.step (hb.block _ h.mapLt) (fun b e _ he => hb.block _ (Array.getElem?_eq_some_iff.1 he).1)
theorem UpW.far {d : Nat → Int → Int → Bool} {mb n m k : Nat} {A B : World} (h : UpW d mb n k A) (hs : StepX m (fun _ => False) A B) (hm : mb < m) : UpW d mb n k B :=
  h.step (hs.below.block _ hm) (fun b e _ he => hs.cells _ _ _ (fun h => h) he)
theorem UpW.congr {d d' : Nat → Int → Int → Bool} {mb n k k' : Nat} {A : World} (h : UpW d mb n k A) (hd : ∀ o c t, o = 2 ∨ o = 3 → d' o c t = d o c t) (hk : k ≤ k') : UpW d' mb n k' A := by
  obtain ⟨D, M, Ed, h1, h2, h3, h4⟩ := h
  exact ⟨D, M, Ed, h1.mono hk, h2, h3.congr hd, h4⟩
theorem UpW.start (d : Nat → Int → Int → Bool) (h : ∀ o c t, o = 2 ∨ o = 3 → d o c t = false) (w : World) (n : Nat) : UpW d w.heap.size n 0 (w.alloc (.map #[] 0)) :=
  ⟨.map [], fun _ _ => none, fun _ => ⟨0, 0, 0, 0⟩, World.ownsMap_made w _ _ _, MapIs.start, UpI.start d h _, fun c t b hb => (by cases hb)⟩

theorem mapHT : Tryz.prog.underlying 161 = some (.map 107 163) := Tryz.underlying161
theorem zeroPE (w : World) : (zeroValue 163).run Tryz.prog w = .ok (.pointer none) w := by kernel_rfl

section
variable {F : Fence} {nF : Nat} (w : World) {ops : Array Oper} {rest : List Oper} {o : Oper} {a : Act} {Q : Exit → Act → World → Prop}
/-- A side that has come is found. -/
theorem lookP_some (hg : o.guard = none) (m x : Operand) (hop : o.op = Op.lookup 161 m x true) (b n : Nat) (D : DataW Unit) (hm : a.eval m = .map (some b)) (hown : w.ownsMap Tryz.prog 107 ptrElem b n D)
    {cx cy : Int} (hx : a.eval x = .agg #[.int .i64 cx, .int .i64 cy]) (h1 : Bd cx) (h2 : Bd cy) (k : Nat) (hh : Maps.has D (klP cx cy) = true) (hv : D.atKey (klP cx cy) .nil = pE k)
    (hK : wpListIn F nF Tryz.prog ops Q rest (a.put o.dst (.tuple #[.pointer (some ⟨k, 0, none⟩), .bool true])) w) : wpListIn F nF Tryz.prog ops Q (o :: rest) a w :=
  wpListIn_lookup_own_ok w hg m x _ hop _ _ keyedP mapHT ptrElem (zeroPE w) .nil [] ptrElem_nil b n D hm hown _ (klP cx cy) hx (keyOfP h1 h2) fun v ps hR => by
    rw [hv] at hR
    rw [hh]
    rcases ptrElem_inv hR with ⟨c, rfl, e⟩ | ⟨-, e⟩
    · obtain rfl := pE_inj e
      exact hK
    · exact absurd e (pE_nil _)
/-- One that has not is not. -/
theorem lookP_none (hg : o.guard = none) (m x : Operand) (hop : o.op = Op.lookup 161 m x true) (b n : Nat) (D : DataW Unit) (hm : a.eval m = .map (some b)) (hown : w.ownsMap Tryz.prog 107 ptrElem b n D)
    {cx cy : Int} (hx : a.eval x = .agg #[.int .i64 cx, .int .i64 cy]) (h1 : Bd cx) (h2 : Bd cy) (hh : Maps.has D (klP cx cy) = false)
    (hK : wpListIn F nF Tryz.prog ops Q rest (a.put o.dst (.tuple #[.pointer none, .bool false])) w) : wpListIn F nF Tryz.prog ops Q (o :: rest) a w :=
  wpListIn_lookup_own_ok w hg m x _ hop _ _ keyedP mapHT ptrElem (zeroPE w) .nil [] ptrElem_nil b n D hm hown _ (klP cx cy) hx (keyOfP h1 h2) fun v ps hR => by
    rw [atKey_of_not_has hh] at hR
    rw [hh]
    rcases ptrElem_inv hR with ⟨c, rfl, e⟩ | ⟨rfl, e⟩
    · exact absurd e.symm (pE_nil _)
    · exact hK
/-- A side is put in. -/
theorem putP (hg : o.guard = none) (m x v : Operand) (hop : o.op = Op.mapUpdate 161 m x v) (b n : Nat) (D : DataW Unit) (hm : a.eval m = .map (some b)) (hown : w.ownsMap Tryz.prog 107 ptrElem b n D) (hn : n < maxLen)
    {cx cy : Int} (hx : a.eval x = .agg #[.int .i64 cx, .int .i64 cy]) (h1 : Bd cx) (h2 : Bd cy) (k : Nat) (hv : a.eval v = .pointer (some ⟨k, 0, none⟩))
    (hK : ∀ w', w'.ownsMap Tryz.prog 107 ptrElem b (n + 1) (D.put (klP cx cy) (pE k)) → w.grownBy w' (some b) → wpListIn F nF Tryz.prog ops Q rest (a.put o.dst undef) w') : wpListIn F nF Tryz.prog ops Q (o :: rest) a w :=
  wpListIn_mapUpdate_own w hg m x v _ hop _ _ keyedP mapHT ptrElem b n D hm hown hn _ _ (klP cx cy) hx hv (keyOfP h1 h2) (pE k) [] (ptrElem_mk k) hK
end

/-- What is found of the side below, and what comes of it. -/
theorem UpI.below {f : Nat → Bool} {y x : Int} {i : Nat} {M : Int → Int → Option Nat} {Ed : Nat → R4} (hx : (runsL f y)[i]? = some x) (h : UpI (dn f y i) M Ed) {b : Nat} (hb : M x (y - 1) = some b) :
    ∃ o lo, (o = 2 ∨ o = 3) ∧ lo < y ∧ Ed b = mkE o x lo y ∧ dn f y i o x (y - 1) = true := by
  obtain ⟨o, lo, hi, ho, hm, t1, t2, e⟩ := h.edge _ _ _ hb
  have hh : hi = y := by
    apply Classical.byContradiction
    intro hne
    have := hm.2.1 y (by omega) (by omega)
    rw [dn_new hx] at this
    cases this
  subst hh
  exact ⟨o, lo, ho, by omega, e, hm.2.1 _ t1 t2⟩
theorem dn_excl {f : Nat → Bool} {y : Int} {i o o' : Nat} {c t : Int} (ho : o = 2 ∨ o = 3) (ho' : o' = 2 ∨ o' = 3) (h : dn f y i o c t = true) (hne : o' ≠ o) : dn f y i o' c t = false := by
  have h1 := (dn_t h).1
  cases h2 : dn f y i o' c t with
  | false => rfl
  | true =>
    have h3 := (dn_t h2).1
    rcases ho with rfl | rfl <;> rcases ho' with rfl | rfl
    · exact absurd rfl hne
    · rw [gS23 _ _ _ h1] at h3; cases h3
    · rw [gS23 _ _ _ h3] at h1; cases h1
    · exact absurd rfl hne
theorem UpI.none {f : Nat → Bool} {y x : Int} {i : Nat} {M : Int → Int → Option Nat} {Ed : Nat → R4} (h : UpI (dn f y i) M Ed) (hb : M x (y - 1) = none) {o : Nat} (ho : o = 2 ∨ o = 3) : dn f y i o x (y - 1) = false := by
  have := h.dom x (y - 1)
  rw [hb] at this
  have h2 : (dn f y i 2 x (y - 1) || dn f y i 3 x (y - 1)) = false := this.symm
  rw [Bool.or_eq_false_iff] at h2
  rcases ho with rfl | rfl
  · exact h2.1
  · exact h2.2
/-- The world behind a side that joins an edge. -/
theorem UpW.join {f : Nat → Bool} {y x lo : Int} {i : Nat} {mb n k b : Nat} {A B : World} {D : DataW Unit} {M : Int → Int → Option Nat} {Ed : Nat → R4} (hx : (runsL f y)[i]? = some x) (hbx : Bd x) (hby : Bd y)
    (h2 : MapIs D M) (h3 : UpI (dn f y i) M Ed) (h4 : ∀ c t b, M c t = some b → n ≤ b ∧ A.heap[b]? = some (eObj (Ed b))) (hb : M x (y - 1) = some b) (hE : Ed b = mkE (oI i) x lo y) (hlo : lo < y)
    (g1 : B.ownsMap Tryz.prog 107 ptrElem mb (k + 1) (D.put (klP x y) (pE b))) (g2 : B.heap[b]? = some (eObj (mkE (oI i) x lo (y + 1)))) (g3 : ∀ (j : Nat) (e : R4), j ≠ b → A.heap[j]? = some (eObj e) → B.heap[j]? = A.heap[j]?) : UpW (dn f y (i + 1)) mb n (k + 1) B :=
  ⟨_, _, _, g1, h2.put hbx hby b, UpI.join (o := oI i) h3 (oI_or i) (fun o' c t ho' => dn_step hx ho' c t) (fun o' _ => dn_up f y i o' x) hb hE hlo, fun c t j hj => by
    by_cases e : j = b
    · subst e
      rw [setEd_same]
      exact ⟨(h4 _ _ _ hb).1, g2⟩
    · have hj' : M c t = some j := by
        unfold putM at hj
        split at hj
        · cases hj; exact absurd rfl e
        · exact hj
      rw [setEd_other _ e]
      exact ⟨(h4 _ _ _ hj').1, (g3 j _ e (h4 _ _ _ hj').2).trans (h4 _ _ _ hj').2⟩⟩
/-- .. behind one that begins an edge. -/
theorem UpW.fresh {f : Nat → Bool} {y x : Int} {i : Nat} {mb n k b : Nat} {A B : World} {D : DataW Unit} {M : Int → Int → Option Nat} {Ed : Nat → R4} (hx : (runsL f y)[i]? = some x) (hbx : Bd x) (hby : Bd y)
    (h2 : MapIs D M) (h3 : UpI (dn f y i) M Ed) (h4 : ∀ c t b, M c t = some b → n ≤ b ∧ A.heap[b]? = some (eObj (Ed b))) (hlow : dn f y i (oI i) x (y - 1) = false) (hn : n ≤ b) (hnew : A.heap.size ≤ b)
    (g1 : B.ownsMap Tryz.prog 107 ptrElem mb (k + 1) (D.put (klP x y) (pE b))) (g2 : B.heap[b]? = some (eObj (mkE (oI i) x y (y + 1)))) (g3 : ∀ (j : Nat) (e : R4), A.heap[j]? = some (eObj e) → B.heap[j]? = A.heap[j]?) : UpW (dn f y (i + 1)) mb n (k + 1) B := by
  have hb : ∀ c t, M c t ≠ some b := fun c t e => by
    have := (Array.getElem?_eq_some_iff.1 (h4 c t b e).2).1
    omega
  refine ⟨_, _, _, g1, h2.put hbx hby b, UpI.fresh (o := oI i) h3 (oI_or i) (fun o' c t ho' => dn_step hx ho' c t) (fun o' _ => dn_up f y i o' x) (dn_new hx _) hlow hb, fun c t j hj => ?_⟩
  by_cases e : j = b
  · subst e
    rw [setEd_same]
    exact ⟨hn, g2⟩
  · have hj' : M c t = some j := by
      unfold putM at hj
      split at hj
      · cases hj; exact absurd rfl e
      · exact hj
    rw [setEd_other _ e]
    exact ⟨(h4 _ _ _ hj').1, (g3 j _ (h4 _ _ _ hj').2).trans (h4 _ _ _ hj').2⟩
end Go.Proofs.YtfbalpkjcfdakaaGreatDoor

namespace Go.Proofs.YtfbalpkjcfdakaaGreatDoor
open Go.RowKit Go.Shelf Go.Maps
set_option linter.unusedVariables false
set_option linter.unusedSimpArgs false
attribute [local go_sem] Oper.semAt_some

theorem inc_len : ∀ (l : List RowE) (a : Int), l.Pairwise (fun e e' => e.1 < e'.1) → (∀ e, e ∈ l → a ≤ e.1 ∧ e.1 < 40) → a ≤ 40 → (l.length : Int) ≤ 40 - a
  | [], a, _, _, h => by simp; omega
  | e :: l, a, h, hb, ha => by
    rw [List.pairwise_cons] at h
    have h1 := hb e (by simp)
    have := inc_len l (e.1 + 1) h.2 (fun e' he' => ⟨by have := h.1 e' he'; omega, (hb e' (by simp [he'])).2⟩) (by omega)
    simp
    omega
theorem tmod2 (i : Nat) : ((i : Int).tmod 2 = 0 ∧ i % 2 = 0 ∧ oI i = 3) ∨ ((i : Int).tmod 2 = 1 ∧ i % 2 = 1 ∧ oI i = 2) := by
  have h : (i : Int).tmod 2 = ((i % 2 : Nat) : Int) := by
    rw [Int.tmod_eq_emod_of_nonneg (by omega)]
    omega
  rcases Nat.mod_two_eq_zero_or_one i with e | e
  · exact .inl ⟨by rw [h, e]; rfl, e, by unfold oI; rw [if_pos e]⟩
  · exact .inr ⟨by rw [h, e]; rfl, e, by unfold oI; rw [if_neg (by omega)]⟩

theorem up_end {mb n0 h B base : Nat} {w V W9 wr w5 : World} {RL : List Int} {v : Value} (KW : Kept (fun k => k = mb ∨ k = B) wr w5) (hB : wr.heap.size ≤ B ∨ ∃ e : R4, n0 ≤ B ∧ wr.heap[B]? = some (eObj e)) (hmb : mb + 1 < n0) (hw : mb + 1 < wr.heap.size) (cm : wr.cell? ⟨mb + 1, 0, none⟩ = some v)
    (H9 : IntsIs base W9 h RL) (HH : wr.heap[h]? = W9.heap[h]?) (hmh : mb < h) (jw : Below mb w wr) (KR : Kept (Ex (fun k => k = mb) n0 EdgeT V) V wr) :
    w5.cell? ⟨mb + 1, 0, none⟩ = some v ∧ w5.heap[h]? = W9.heap[h]? ∧ Below mb w w5 ∧ Kept (Ex (fun k => k = mb) n0 EdgeT V) V w5 := by
  obtain ⟨-, ⟨cur, ec⟩, -⟩ := H9
  have hlt : h < wr.heap.size := (Array.getElem?_eq_some_iff.1 (HH.trans ec)).1
  refine ⟨(KW.cell (p := ⟨mb + 1, 0, none⟩) hw ?_).trans cm, (KW.block h hlt ?_).trans HH, jw.trans (KW.below (by omega) ?_), KR.transU (X := fun k => k = mb) (show Kept (Ex (fun k => k = mb) n0 EdgeT wr) wr w5 from KW.mono ?_) (fun k h => h) (fun k h => h)⟩
  · rintro (e | e)
    · have : mb + 1 = mb := e
      omega
    · replace e : mb + 1 = B := e
      rcases hB with hB | ⟨e', hB, -⟩ <;> omega
  · rintro (e | e)
    · omega
    · rcases hB with hB | ⟨e', hB, he⟩
      · omega
      · rw [← e, HH, ec] at he
        simp at he
  · intro k hk
    rintro (e | e)
    · omega
    · rcases hB with hB | ⟨e', hB, -⟩ <;> omega
  · rintro k hk (e | e)
    · exact .inl e
    · rcases hB with hB | ⟨e', hB, he⟩
      · omega
      · exact .inr ⟨by omega, _, _, by rw [e]; exact he, rfl⟩
theorem kept_grow {a b : World} {mb B : Nat} (h : a.grownBy b (some mb)) : Kept (fun k => k = mb ∨ k = B) a b :=
  ⟨h.os, h.tape, h.output, h.size, fun k hk hX => h.block k hk (fun e => hX (.inl (by cases e; rfl)))⟩

set_option maxRecDepth 100000 in
set_option maxHeartbeats 16000000 in
theorem uprightSides_any (m : Option Addr) (n cap : Nat) (P Q R S : Nat → Int) (w : World) (hn : n ≤ 1048576) (hcap : n ≤ cap) (hD : EnvW w) (hR : RectsIs w.heap.size w m n P Q R S) (hok : okR P Q R S n = true) :
    Calls Tryz.prog 122 #[.slice m n cap] w fun e w' => (∃ mb k, e = .returned (.map (some mb)) ∧ w.heap.size ≤ mb ∧ k ≤ 6561 ∧ UpW (gS (covF P Q R S n)) mb w.heap.size k w') ∧ Below w.heap.size w w' := by
  obtain ⟨f, hf⟩ : ∃ f, f = covF P Q R S n := ⟨_, rfl⟩
  rw [← hf]
  refine calls_of_marks Tryz.func122 rfl ?_
  simp only [Tryz.ntmps122, List.size_toArray, List.length_cons, List.length_nil, Nat.reduceAdd, Nat.reduceSub, Array.replicate_succ, Array.replicate_zero, List.push_toArray, List.append_toArray, List.nil_append, List.cons_append]
  have hmm := @run_makeMap Tryz.prog
  go_wp2_with (first | (go_at_call 131; refine (rowsOf_any _ _ _ _).mono ?_; rintro e w2 ⟨rfl, hw2⟩; subst hw2))
  clear hmm
  obtain ⟨wS, hwS⟩ : ∃ wS, wS = ((w.alloc (.map #[] 0)).alloc (.cells #[.map (some w.heap.size)] 161)).alloc (.cells #[.slice m n cap] 26) := ⟨_, rfl⟩
  have bwS : Below w.heap.size w wS := by rw [hwS]; (repeat (first | (with_reducible exact Below.refl _ _) | (with_reducible refine Ext.drewN ?_ _) | (with_reducible refine Below.drew ?_) | (with_reducible refine Ext.alloc ?_ _) | (with_reducible refine Ext.setCell ?_ (by simp; try omega) _) | (with_reducible refine Ext.trans ?_ (by assumption)) | (with_reducible assumption) | exact Below.refl _ _))
  have sS : wS.heap.size = w.heap.size + 3 := by rw [hwS]; simp
  have cS : wS.cell? ⟨w.heap.size + 1 + 1, 0, none⟩ = some (.slice m n cap) := by rw [hwS]; simp [go_sem]
  have cM : wS.cell? ⟨w.heap.size + 1, 0, none⟩ = some (.map (some w.heap.size)) := by rw [hwS]; simp [go_sem]
  have hs1 : w.heap.size + 3 ≤ wS.heap.size := by omega
  clear sS
  have hU0 : UpW (dnP f []) w.heap.size wS.heap.size 0 wS := by
    rw [hwS]
    exact ((UpW.start _ (fun o c t _ => dnP_nil _ o c t) w _).below (by (repeat (first | (with_reducible exact Below.refl _ _) | (with_reducible refine Ext.drewN ?_ _) | (with_reducible refine Below.drew ?_) | (with_reducible refine Ext.alloc ?_ _) | (with_reducible refine Ext.setCell ?_ (by simp; try omega) _) | (with_reducible refine Ext.trans ?_ (by assumption)) | (with_reducible assumption) | exact Below.refl _ _)))).below (by (repeat (first | (with_reducible exact Below.refl _ _) | (with_reducible refine Ext.drewN ?_ _) | (with_reducible refine Below.drew ?_) | (with_reducible refine Ext.alloc ?_ _) | (with_reducible refine Ext.setCell ?_ (by simp; try omega) _) | (with_reducible refine Ext.trans ?_ (by assumption)) | (with_reducible assumption) | exact Below.refl _ _)))
  have RS := Lib.hid (hR.ext bwS)
  have HOK := Lib.hid hok
  have HD := Lib.hid hD
  have hdz := hD.deb.size
  have hsort := rowsQ_inc hok
  have hrow := fun e he => rowsQ_ok n P Q R S n (okR_all hok) e he
  have hlenL : (rowsQ n P Q R S n).length ≤ 80 := by
    have := inc_len (rowsQ n P Q R S n) (-40) hsort (fun e he => by have := (hrow e he).1; omega) (by omega)
    omega
  have HSORT := Lib.hid hsort
  have HROW := Lib.hid hrow
  obtain ⟨LL, hLL⟩ : ∃ LL, LL = rowsQ n P Q R S n := ⟨_, rfl⟩
  rw [← hLL] at hlenL
  have HF := Lib.hid hf
  have HLL := Lib.hid hLL
  rw [← hwS]
  clear hwS hok hsort hrow hf hD
  refine rangeU2 (gf := 164) (lb := #[.pointer (some ⟨w.heap.size + 1 + 1, 0, none⟩)]) rfl (enters_of Tryz.func164 (by kernel_rfl) rfl) (encs := fun e : RowE => #[.int .i64 e.1, colV e.2.1 e.2.2]) (L := LL) (fun k => k = w.heap.size) (fun k hk => by omega) wS.heap.size EdgeT (fun _ => False) ?hseq (fun _ => rfl)
    (fun ps V => UpW (dnP f ps) w.heap.size wS.heap.size (81 * ps.length) V ∧ V.cell? ⟨w.heap.size + 1, 0, none⟩ = some (.map (some w.heap.size)) ∧ Below w.heap.size w V)
    (fun _ _ _ => False)
    (fun s A B hs hb => ⟨hs.1.far hb (by omega), (hb.below.cell (p := ⟨w.heap.size + 1, 0, none⟩) (show w.heap.size + 1 < wS.heap.size by omega)).trans hs.2.1, hs.2.2.trans (hb.below.mono (by omega))⟩)
    (fun _ _ _ _ h _ => h)
    ⟨hU0, cM, bwS⟩
    (fun T e Bx => (((T.setIfInBounds 14 (.int .i64 e.1)).setIfInBounds 15 (colV e.2.1 e.2.2)).setIfInBounds 4 (.int .i64 e.1)).setIfInBounds 5 (.pointer (some ⟨Bx, 0, none⟩))) (fun e => .cells #[.int .u64 (e.2.1 : Int), .int .u64 (e.2.2 : Int)] 84) ?assign ?body ?done ?stop
  case hseq =>
    intro V hV hVs
    rw [hLL]
    exact rowsOf_seqU _ wS.heap.size EdgeT (by unfold EdgeT; decide) (w.heap.size + 1 + 1) m n cap n P Q R S V ((hV.cell (p := ⟨w.heap.size + 1 + 1, 0, none⟩) (show w.heap.size + 1 + 1 < wS.heap.size by omega)).trans cS) (fun k hk => by omega) hn hcap (Nat.le_refl _) (RS.out.ext hV) (fun h0 b off e => by
      obtain ⟨b1, o1, e1, h1, -⟩ := hR 0 h0
      rw [e1] at e
      cases e
      omega) (okR_all HOK.out)
  case assign =>
    intro l e V K hK
    gi_wp2
    exact hK
  case body =>
    rintro l ps e post Bx V hL hBx hVB ⟨hU, i2, i3⟩
    have hmem : e ∈ LL := by rw [hL]; simp
    have hmem' := hmem
    rw [HLL.out] at hmem'
    obtain ⟨⟨v1, v2⟩, v3, v4⟩ := HROW.out e hmem'
    have c0 : V.cell? ⟨Bx, 0, none⟩ = some (.int .u64 (e.2.1 : Int)) := by rw [cell_of_row _ _ 0 _ _ _ hVB]; rfl
    have c1 : V.cell? ⟨Bx, 1, none⟩ = some (.int .u64 (e.2.2 : Int)) := by rw [cell_of_row _ _ 1 _ _ _ hVB]; rfl
    have hVs : Bx < V.heap.size := (Array.getElem?_eq_some_iff.1 hVB).1
    have hDV : DebW V := HD.out.deb.below i3 hdz
    have hcol : ∀ c : Nat, c < 80 → colB e.2.1 e.2.2 c = hasB f ((c : Int) - 40) e.1 := fun c hc => by rw [HF.out]; exact rowsQ_has HOK.out e hmem' c hc
    have hsplit : ∀ (o : Nat), (o = 2 ∨ o = 3) → ∀ (c t : Int), dn f e.1 0 o c t = dnP f ps o c t ∧ dnP f (ps ++ [e]) o c t = dn f e.1 (runsL f e.1).length o c t := fun o ho c t =>
      dnP_row hL (by rw [HLL.out]; exact HSORT.out) (fun {o c t} ho hg => by rw [HF.out] at hg; rw [HLL.out]; exact rowsQ_side HOK.out ho hg) ho c t
    have hps : ps.length < 80 := by
      have := congrArg List.length hL
      simp only [List.length_append, List.length_cons] at this
      omega
    have hrl : (runsL f e.1).length ≤ 81 := runsTo_len f e.1 81
    obtain ⟨RL, hRL⟩ : ∃ RL, RL = runsL f e.1 := ⟨_, rfl⟩
    have HU := Lib.hid (hU.congr (fun o c t ho => (hsplit o ho c t).1) (Nat.le_refl _))
    have HSP := Lib.hid hsplit
    have HCOL := Lib.hid hcol
    have HRL := Lib.hid hRL
    have HL := Lib.hid hL
    have HVB := Lib.hid hVB
    rw [← hRL] at hrl
    clear hVB hL hmem hmem' hU hsplit hcol hRL
    dsimp only
    gi_wp2_with (refine ⟨trivial, ?_⟩; gi_at_call 113; refine (CallsIn.inRound l (callsIn_wide.2 (runs_any e.2.1 e.2.2 _ v3 v4 (by first | exact hDV | exact hDV.ext (by (repeat (first | (with_reducible exact Below.refl _ _) | (with_reducible refine Ext.drewN ?_ _) | (with_reducible refine Below.drew ?_) | (with_reducible refine Ext.alloc ?_ _) | (with_reducible refine Ext.setCell ?_ (by simp; try omega) _) | (with_reducible refine Ext.trans ?_ (by assumption)) | (with_reducible assumption) | exact Below.refl _ _)))) f e.1 HCOL.out))).mono ?_; rintro e9 W9 ⟨⟨h, cc, rfl, k1, k2⟩, bw9⟩; rw [← HRL.out] at k1 k2 ⊢)
    have hh9 := k1.1
    have hh9' := k1.lt
    have H9 := Lib.hid k1
    have k3 := keepC bw9 i2
    have U9 := Lib.hid (HU.out.below bw9)
    have j3 := i3.trans (bw9.mono i3.size)
    have sV := bw9.size
    have q0 : wS.heap.size + 2 ≤ V.heap.size := by omega
    have K9 : Kept (Ex (fun k => k = w.heap.size) wS.heap.size EdgeT V) V W9 := Kept.of_below bw9
    clear k1 bw9 i2 i3 hDV c0 c1 HU
    gi_loopw [19] (fun s19 wr => ∃ i : Nat, i ≤ RL.length ∧ s19 = .int .i64 (i : Int) ∧ Hid (UpW (dn f e.1 i) w.heap.size wS.heap.size (81 * ps.length + i) wr) ∧ wr.cell? ⟨w.heap.size + 1, 0, none⟩ = some (.map (some w.heap.size)) ∧ Hid (wr.heap[h]? = W9.heap[h]?) ∧ Below w.heap.size w wr ∧ W9.heap.size ≤ wr.heap.size ∧ Hid (Kept (Ex (fun k => k = w.heap.size) wS.heap.size EdgeT V) V wr)) (fun s19 _ => RL.length - (intOf s19).toNat)
    case atStart => exact ⟨0, by omega, rfl, U9, k3, Lib.hid rfl, j3, Nat.le_refl _, Lib.hid K9⟩
    case round =>
      obtain ⟨i, hi, rfl, UR, cm, HH, jw, hsz, KR⟩ := hrel
      by_cases hlt : i < RL.length
      · obtain ⟨x, hx⟩ : ∃ x, RL[i]? = some x := ⟨_, List.getElem?_eq_getElem hlt⟩
        have hx' : (runsL f e.1)[i]? = some x := by rw [← HRL.out]; exact hx
        obtain ⟨⟨x1, x2⟩, -⟩ := run_dir hx'
        have cx : wr.cell? ⟨h, i, none⟩ = some (.int .i64 x) := by
          rw [World.cell?_of_block (w := W9) HH.out]
          exact H9.out.2.2 i x hx
        have HX := Lib.hid hx'
        obtain ⟨D, M, Ed, hown, hM, hUI, hEd⟩ := UR.out
        have hbx : Bd x := ⟨by omega, by omega⟩
        have hby : Bd e.1 := ⟨by omega, by omega⟩
        have hby1 : Bd (e.1 - 1) := ⟨by omega, by omega⟩
        have HM := Lib.hid hM
        have HUI := Lib.hid hUI
        have HED := Lib.hid hEd
        have q1 : (i : Int) < (RL.length : Int) := by omega
        have q2 : (0 : Int) ≤ (i : Int) := by omega
        have q3 : IntKind.i64.wrap (e.1 + 1) = e.1 + 1 := by rw [IntKind.wrap_i64]; omega
        have q4 : IntKind.i64.wrap (e.1 - 1) = e.1 - 1 := by rw [IntKind.wrap_i64]; omega
        have hmbl : w.heap.size < wr.heap.size := hown.lt
        clear hx hx' hM hUI hEd
        rcases tmod2 i with hp | hp
        · obtain ⟨hp1, hp2, hp3⟩ := hp
          have HP3 := Lib.hid hp3
          clear hp2 hp3
          obtain ⟨sb, hsb⟩ : ∃ sb, sb = wr.heap.size := ⟨_, rfl⟩
          gi_wp2_with fail
          obtain ⟨wA, hwA⟩ : ∃ wA, wA = wr.alloc (.cells #[.int .i64 x, .int .i64 e.1, .int .i64 x, .int .i64 (e.1 + 1)] 55) := ⟨_, rfl⟩
          have bA : Below wr.heap.size wr wA := by rw [hwA]; (repeat (first | (with_reducible exact Below.refl _ _) | (with_reducible refine Ext.drewN ?_ _) | (with_reducible refine Below.drew ?_) | (with_reducible refine Ext.alloc ?_ _) | (with_reducible refine Ext.setCell ?_ (by simp; try omega) _) | (with_reducible refine Ext.trans ?_ (by assumption)) | (with_reducible assumption) | exact Below.refl _ _))
          have hA : wA.heap[wr.heap.size]? = some (eObj ⟨x, e.1, x, e.1 + 1⟩) := by rw [hwA]; exact heap_alloc_new wr _
          rw [← hwA]
          clear hwA
          have hS' : ∀ w', Below wA.heap.size wA w' → w'.heap[wr.heap.size]? = some (eObj ⟨x, e.1, x, e.1 + 1⟩) := fun w' h => (h.block _ (Array.getElem?_eq_some_iff.1 hA).1).trans hA
          have y0 : ∀ w', Below wA.heap.size wA w' → w'.cell? ⟨wr.heap.size, 0, none⟩ = some (.int .i64 x) := fun w' h => (eObj_cells (hS' w' h)).1.1
          have y1 : ∀ w', Below wA.heap.size wA w' → w'.cell? ⟨wr.heap.size, 1, none⟩ = some (.int .i64 e.1) := fun w' h => (eObj_cells (hS' w' h)).1.2.1
          have y2 : ∀ w', Below wA.heap.size wA w' → w'.cell? ⟨wr.heap.size, 2, none⟩ = some (.int .i64 x) := fun w' h => (eObj_cells (hS' w' h)).1.2.2.1
          have y3 : ∀ w', Below wA.heap.size wA w' → w'.cell? ⟨wr.heap.size, 3, none⟩ = some (.int .i64 (e.1 + 1)) := fun w' h => (eObj_cells (hS' w' h)).1.2.2.2
          have HS' := Lib.hid hS'
          clear hS' hA
          refine regionT (S := fun w' => Below wA.heap.size wA w') (tl := fun i => i == 5) (by kernel_rfl) ?_
          have hS := (show Below wA.heap.size wA wA.drew from (Below.refl _ _).drew)
          refine takeT (i := 0) (.agg #[.int .i64 x, .int .i64 e.1, .int .i64 x, .int .i64 (e.1 + 1)]) rfl (by kernel_rfl) (by kernel_rfl) (by kernel_rfl) (by kernel_rfl) (by kernel_rfl) (fun _ _ _ h => h) (by rfl) ?_ (fun _ => rfl) hS ?_
          · intro w' h9
            simp [go_sem, Act.put, y0 _ h9, y1 _ h9, y2 _ h9, y3 _ h9]
          simp only [go_sem, Act.put, List.getElem_toArray, List.getElem_cons_succ, List.getElem_cons_zero, List.setIfInBounds_toArray, List.set_cons_succ, List.set_cons_zero]
          refine takeT (i := 2) (.agg #[.int .i64 x, .int .i64 e.1, .int .i64 x, .int .i64 (e.1 + 1)]) rfl (by kernel_rfl) (by kernel_rfl) (by kernel_rfl) (by kernel_rfl) (by kernel_rfl) (fun _ _ _ h => h) (by rfl) ?_ (fun _ => rfl) hS ?_
          · intro w' h9
            simp [go_sem, Act.put, y0 _ h9, y1 _ h9, y2 _ h9, y3 _ h9]
          simp only [go_sem, Act.put, List.getElem_toArray, List.getElem_cons_succ, List.getElem_cons_zero, List.setIfInBounds_toArray, List.set_cons_succ, List.set_cons_zero]
          refine oneN (i := 1) (by kernel_rfl) (wpOpIn_step rfl fun K' hK' => ?_)
          rw [if_pos (by rfl)]
          refine ⟨fun _ _ => trivial, ?_⟩
          simp only [go_sem, Act.put]
          simp [go_sem, enters_of Tryz.func80 (by kernel_rfl) rfl]
          refine (CallsIn.inRound l (callsIn_wide.2 (eEnd_any x e.1 x (e.1 + 1) _))).mono ?_
          rintro r u ⟨rfl, bu⟩
          replace hS := Below.trans hS (bu.mono hS.size)
          clear bu
          dsimp only
          refine hK' _ _ ⟨hS, ?_⟩
          clear hK'
          refine oneN (i := 3) (by kernel_rfl) (wpOpIn_step rfl fun K' hK' => ?_)
          rw [if_pos (by rfl)]
          refine ⟨fun _ _ => trivial, ?_⟩
          simp only [go_sem, Act.put]
          simp [go_sem, enters_of Tryz.func79 (by kernel_rfl) rfl]
          refine (CallsIn.inRound l (callsIn_wide.2 (eBegin_any x e.1 x (e.1 + 1) _))).mono ?_
          rintro r u ⟨rfl, bu⟩
          replace hS := Below.trans hS (bu.mono hS.size)
          clear bu
          dsimp only
          refine hK' _ _ ⟨hS, ?_⟩
          clear hK'
          refine oneN (i := 4) (by kernel_rfl) (wpOpIn_step rfl fun K' hK' => ?_)
          rw [if_pos (by rfl)]
          refine ⟨fun _ _ => trivial, ?_⟩
          simp only [go_sem, Act.put]
          simp [go_sem, enters_of Tryz.func109 (by kernel_rfl) rfl]
          refine (CallsIn.inRound l (callsIn_wide.2 (edgeBetween_any x (e.1 + 1) x e.1 _))).mono ?_
          rintro r u ⟨rfl, bu⟩
          replace hS := Below.trans hS (bu.mono hS.size)
          clear bu
          dsimp only
          refine hK' _ _ ⟨hS, ?_⟩
          clear hK'
          refine oneT (i := 5) (by kernel_rfl) rfl (wpOpIn_step rfl fun K' hK' => ?_)
          rw [if_pos (by rfl)]
          refine ⟨fun _ _ => trivial, ?_⟩
          obtain ⟨f0, f1, f2, f3⟩ := (eObj_cells (HS'.out _ hS)).2
          have z0 := y0 _ hS
          have z1 := y1 _ hS
          have z2 := y2 _ hS
          have z3 := y3 _ hS
          simp [go_sem, Act.put, f0, f1, f2, f3, z0, z1, z2, z3]
          refine hK' _ _ ?_
          clear hK'
          refine doneT (by kernel_rfl) ?_ _
          rename World => uu
          obtain ⟨wB, hwB⟩ : ∃ wB, wB = (((uu.setCell ⟨wr.heap.size, 0, none⟩ (.int .i64 x)).setCell ⟨wr.heap.size, 1, none⟩ (.int .i64 (e.1 + 1))).setCell ⟨wr.heap.size, 2, none⟩ (.int .i64 x)).setCell ⟨wr.heap.size, 3, none⟩ (.int .i64 e.1) := ⟨_, rfl⟩
          have hB : wB.heap[wr.heap.size]? = some (eObj ⟨x, e.1 + 1, x, e.1⟩) := by rw [hwB]; exact eObj_set (HS'.out _ hS) ⟨x, e.1 + 1, x, e.1⟩
          have bB : Below wr.heap.size wr wB := by
            rw [hwB]
            exact Ext.setCell (Ext.setCell (Ext.setCell (Ext.setCell (Ext.trans bA hS) (Nat.le_refl _) _) (Nat.le_refl _) _) (Nat.le_refl _) _) (Nat.le_refl _) _
          rw [← hwB]
          clear hwB y0 y1 y2 y3 HS' hS bA f0 f1 f2 f3 z0 z1 z2 z3
          have hownB := ownsMap_block hown (bB.block _ hmbl)
          obtain ⟨⟨b0, b1, b2, b3⟩, -⟩ := eObj_cells hB
          have cmB : wB.cell? ⟨w.heap.size + 1, 0, none⟩ = some (.map (some w.heap.size)) := keepC bB cm
          have sbl : wr.heap.size < wB.heap.size := (Array.getElem?_eq_some_iff.1 hB).1
          have HBB := Lib.hid hB
          have BB := Lib.hid bB
          clear hB bB
          have BB' := BB.out
          cases hm : M x (e.1 - 1) with
          | none =>
            have hhas : Maps.has D (klP x (e.1 - 1)) = false := by rw [HM.out.has _ _ hbx hby1, hm]; rfl
            have HMN := Lib.hid hm
            clear hm
            gi_wp2_with (first | (gi_at_lookup; refine lookP_none _ rfl _ _ rfl w.heap.size _ D rfl hownB rfl hbx hby1 hhas ?_) | (gi_at_mapUpdate; refine putP _ rfl _ _ _ rfl w.heap.size _ D rfl hownB (by unfold maxLen; omega) rfl hbx hby wr.heap.size rfl ?_; intro w5 hown5 hgr5) | (refine ⟨trivial, ?_⟩))
            have KW : Kept (fun k => k = w.heap.size ∨ k = wr.heap.size) wr w5 := ((Kept.of_below BB.out).trans (kept_grow hgr5))
            obtain ⟨e1, e2, e3, e4⟩ := up_end KW (.inl (Nat.le_refl _)) (by omega) (by omega) cm H9.out HH.out (by omega) jw KR.out
            have UP : Hid (UpW (dn f e.1 (i + 1)) w.heap.size wS.heap.size (81 * ps.length + i + 1) w5) := Lib.hid (UpW.fresh HX.out hbx hby HM.out HUI.out HED.out (HUI.out.none HMN.out (oI_or i)) (by omega) (Nat.le_refl _) hown5 (by rw [HP3.out, hgr5.block _ (Array.getElem?_eq_some_iff.1 HBB.out).1 (fun e9 => by simp at e9; omega)]; exact HBB.out) (fun j e9 hj => by rw [hgr5.block _ (Nat.lt_of_lt_of_le (Array.getElem?_eq_some_iff.1 hj).1 BB.out.size) (fun e8 => by obtain rfl := Option.some.inj e8; obtain ⟨es, ck, h1, -⟩ := hown; rw [h1] at hj; cases hj)]; exact BB.out.block _ (Array.getElem?_eq_some_iff.1 hj).1))
            have E2 := Lib.hid e2
            have E4 := Lib.hid e4
            have hs5 := KW.size
            clear e2 e4 KW hown5 hgr5
            gi_wp2
            go_roundw
            case rel => exact ⟨i + 1, by omega, by go_num, UP, e1, E2, e3, by omega, E4⟩
            case measure => simp [intOf]; omega
          | some b =>
            obtain ⟨o1, lo, ho1, hlo, hE, hd1⟩ := HUI.out.below HX.out hm
            have hhas : Maps.has D (klP x (e.1 - 1)) = true := by rw [HM.out.has _ _ hbx hby1, hm]; rfl
            have hval := HM.out.val _ _ b hbx hby1 hm .nil
            have hbE : wB.heap[b]? = some (eObj (mkE o1 x lo e.1)) := by rw [← hE]; exact (BB.out.block _ (Array.getElem?_eq_some_iff.1 (HED.out _ _ _ hm).2).1).trans (HED.out _ _ _ hm).2
            have hbn := (HED.out _ _ _ hm).1
            have hbr := (HED.out _ _ _ hm).2
            have hbl : b < wr.heap.size := (Array.getElem?_eq_some_iff.1 hbr).1
            have HMB := Lib.hid hm
            have HE := Lib.hid hE
            have HBE := Lib.hid hbE
            have HBR := Lib.hid hbr
            have HD1 := Lib.hid hd1
            clear hm hE hbE hbr hd1
            by_cases ho : o1 = oI i
            · rw [HP3.out] at ho
              subst ho
              gi_wp2_with (first | (gi_at_lookup; refine lookP_some _ rfl _ _ rfl w.heap.size _ D rfl hownB rfl hbx hby1 b hhas hval ?_) | (refine ⟨trivial, ?_⟩; gi_at_call 151; refine (CallsIn.inRound l (callsIn_wide.2 (extend_2 b (mkE 3 x lo e.1) ⟨x, e.1 + 1, x, e.1⟩ _ (HBE.out) (by simp [mkE]; omega) (by rfl) (by rfl)))).mono ?_; rintro e8 wC ⟨rfl, hC, KC⟩; have cmC : wC.cell? ⟨w.heap.size + 1, 0, none⟩ = some (.map (some w.heap.size)) := (KC.cell (p := ⟨w.heap.size + 1, 0, none⟩) (World.block_lt_of_cell? _ ⟨w.heap.size + 1, 0, none⟩ cmB) (show ¬ w.heap.size + 1 = b by omega)).trans cmB; have hownC := ownsMap_block hownB (KC.block _ hownB.lt (show ¬ w.heap.size = b by omega)); have HC := Lib.hid hC; have KC' := Lib.hid KC; clear hC KC) | (gi_at_mapUpdate; refine putP _ rfl _ _ _ rfl w.heap.size _ D rfl hownC (by unfold maxLen; omega) rfl hbx hby b rfl ?_; intro w5 hown5 hgr5))
              have KC := KC'.out
              have hCm : wC.heap[b]? = some (eObj (mkE (oI i) x lo (e.1 + 1))) := by rw [HP3.out]; exact HC.out
              have KW : Kept (fun k => k = w.heap.size ∨ k = b) wr w5 := (((Kept.of_below BB.out).trans (KC.mono (fun k _ h => .inr h))).trans (kept_grow hgr5))
              obtain ⟨e1, e2, e3, e4⟩ := up_end KW (.inr ⟨_, hbn, HBR.out⟩) (by omega) (by omega) cm H9.out HH.out (by omega) jw KR.out
              have UP : Hid (UpW (dn f e.1 (i + 1)) w.heap.size wS.heap.size (81 * ps.length + i + 1) w5) := Lib.hid (UpW.join HX.out hbx hby HM.out HUI.out HED.out HMB.out (by rw [HE.out, HP3.out]) hlo hown5 (by rw [hgr5.block _ (Array.getElem?_eq_some_iff.1 hCm).1 (fun e9 => by simp at e9; omega)]; exact hCm) (fun j e9 hjb hj => by rw [hgr5.block _ (Nat.lt_of_lt_of_le (Nat.lt_of_lt_of_le (Array.getElem?_eq_some_iff.1 hj).1 BB.out.size) KC.size) (fun e8 => by obtain rfl := Option.some.inj e8; obtain ⟨es, ck, h1, -⟩ := hown; rw [h1] at hj; cases hj), KC.block _ (Nat.lt_of_lt_of_le (Array.getElem?_eq_some_iff.1 hj).1 BB.out.size) hjb]; exact BB.out.block _ (Array.getElem?_eq_some_iff.1 hj).1))
              have E2 := Lib.hid e2
              have E4 := Lib.hid e4
              have hs5 := KW.size
              clear e2 e4 KW hown5 hgr5
              gi_wp2
              go_roundw
              case rel => exact ⟨i + 1, by omega, by go_num, UP, e1, E2, e3, by omega, E4⟩
              case measure => simp [intOf]; omega
            · have ho9 : o1 = 2 := by rcases ho1 with h9 | h9 <;> rcases oI_or i with h8 | h8 <;> rw [HP3.out] at ho <;> omega
              subst ho9
              have hlow : dn f e.1 i (oI i) x (e.1 - 1) = false := dn_excl ho1 (oI_or i) HD1.out (fun h9 => ho h9.symm)
              have HLOW := Lib.hid hlow
              clear hlow ho
              gi_wp2_with (first | (gi_at_lookup; refine lookP_some _ rfl _ _ rfl w.heap.size _ D rfl hownB rfl hbx hby1 b hhas hval ?_) | (refine ⟨trivial, ?_⟩; gi_at_call 151; refine (CallsIn.inRound l (callsIn_wide.2 (extend_0 b (mkE 2 x lo e.1) ⟨x, e.1 + 1, x, e.1⟩ _ (HBE.out) (by simp [mkE]; omega) (by simp [mkE]; omega)))).mono ?_; rintro e8 wC ⟨rfl, KC⟩; have cmC : wC.cell? ⟨w.heap.size + 1, 0, none⟩ = some (.map (some w.heap.size)) := keepC KC cmB; have hownC := ownsMap_block hownB (KC.block _ hownB.lt); have KC' := Lib.hid KC; clear KC) | (gi_at_mapUpdate; refine putP _ rfl _ _ _ rfl w.heap.size _ D rfl hownC (by unfold maxLen; omega) rfl hbx hby wr.heap.size rfl ?_; intro w5 hown5 hgr5))
              have KC := KC'.out
              have hCm : wC.heap[wr.heap.size]? = some (eObj (mkE (oI i) x e.1 (e.1 + 1))) := by rw [HP3.out, KC.block _ (Array.getElem?_eq_some_iff.1 HBB.out).1]; exact HBB.out
              have KW : Kept (fun k => k = w.heap.size ∨ k = wr.heap.size) wr w5 := ((Kept.of_below (Ext.trans BB.out KC)).trans (kept_grow hgr5))
              obtain ⟨e1, e2, e3, e4⟩ := up_end KW (.inl (Nat.le_refl _)) (by omega) (by omega) cm H9.out HH.out (by omega) jw KR.out
              have UP : Hid (UpW (dn f e.1 (i + 1)) w.heap.size wS.heap.size (81 * ps.length + i + 1) w5) := Lib.hid (UpW.fresh HX.out hbx hby HM.out HUI.out HED.out HLOW.out (by omega) (Nat.le_refl _) hown5 (by rw [hgr5.block _ (Array.getElem?_eq_some_iff.1 hCm).1 (fun e9 => by simp at e9; omega)]; exact hCm) (fun j e9 hj => by rw [hgr5.block _ (Nat.lt_of_lt_of_le (Nat.lt_of_lt_of_le (Array.getElem?_eq_some_iff.1 hj).1 BB.out.size) KC.size) (fun e8 => by obtain rfl := Option.some.inj e8; obtain ⟨es, ck, h1, -⟩ := hown; rw [h1] at hj; cases hj), KC.block _ (Nat.lt_of_lt_of_le (Array.getElem?_eq_some_iff.1 hj).1 BB.out.size)]; exact BB.out.block _ (Array.getElem?_eq_some_iff.1 hj).1))
              have E2 := Lib.hid e2
              have E4 := Lib.hid e4
              have hs5 := KW.size
              clear e2 e4 KW hown5 hgr5
              gi_wp2
              go_roundw
              case rel => exact ⟨i + 1, by omega, by go_num, UP, e1, E2, e3, by omega, E4⟩
              case measure => simp [intOf]; omega
        · obtain ⟨hp1, hp2, hp3⟩ := hp
          have HP3 := Lib.hid hp3
          clear hp2 hp3
          obtain ⟨sb, hsb⟩ : ∃ sb, sb = wr.heap.size := ⟨_, rfl⟩
          obtain ⟨wB, hwB⟩ : ∃ wB, wB = wr.alloc (.cells #[.int .i64 x, .int .i64 e.1, .int .i64 x, .int .i64 (e.1 + 1)] 55) := ⟨_, rfl⟩
          have bB : Below wr.heap.size wr wB := by rw [hwB]; (repeat (first | (with_reducible exact Below.refl _ _) | (with_reducible refine Ext.drewN ?_ _) | (with_reducible refine Below.drew ?_) | (with_reducible refine Ext.alloc ?_ _) | (with_reducible refine Ext.setCell ?_ (by simp; try omega) _) | (with_reducible refine Ext.trans ?_ (by assumption)) | (with_reducible assumption) | exact Below.refl _ _))
          have hB : wB.heap[wr.heap.size]? = some (eObj ⟨x, e.1, x, e.1 + 1⟩) := by rw [hwB]; exact heap_alloc_new wr _
          have hownB := ownsMap_block hown (bB.block _ hmbl)
          obtain ⟨⟨b0, b1, b2, b3⟩, -⟩ := eObj_cells hB
          have cmB : wB.cell? ⟨w.heap.size + 1, 0, none⟩ = some (.map (some w.heap.size)) := keepC bB cm
          have sbl : wr.heap.size < wB.heap.size := (Array.getElem?_eq_some_iff.1 hB).1
          have HBB := Lib.hid hB
          have BB := Lib.hid bB
          clear hB bB
          rw [hwB] at b0 b1 b2 b3 cmB sbl hownB
          have HWB := Lib.hid hwB
          clear hwB
          have BB' := BB.out
          cases hm : M x (e.1 - 1) with
          | none =>
            have hhas : Maps.has D (klP x (e.1 - 1)) = false := by rw [HM.out.has _ _ hbx hby1, hm]; rfl
            have HMN := Lib.hid hm
            clear hm
            gi_wp2_with (first | (gi_at_lookup; refine lookP_none _ rfl _ _ rfl w.heap.size _ D rfl hownB rfl hbx hby1 hhas ?_) | (gi_at_mapUpdate; refine putP _ rfl _ _ _ rfl w.heap.size _ D rfl hownB (by unfold maxLen; omega) rfl hbx hby wr.heap.size rfl ?_; intro w5 hown5 hgr5) | (refine ⟨trivial, ?_⟩))
            rw [← HWB.out] at hgr5
            have KW : Kept (fun k => k = w.heap.size ∨ k = wr.heap.size) wr w5 := ((Kept.of_below BB.out).trans (kept_grow hgr5))
            obtain ⟨e1, e2, e3, e4⟩ := up_end KW (.inl (Nat.le_refl _)) (by omega) (by omega) cm H9.out HH.out (by omega) jw KR.out
            have UP : Hid (UpW (dn f e.1 (i + 1)) w.heap.size wS.heap.size (81 * ps.length + i + 1) w5) := Lib.hid (UpW.fresh HX.out hbx hby HM.out HUI.out HED.out (HUI.out.none HMN.out (oI_or i)) (by omega) (Nat.le_refl _) hown5 (by rw [HP3.out, hgr5.block _ (Array.getElem?_eq_some_iff.1 HBB.out).1 (fun e9 => by simp at e9; omega)]; exact HBB.out) (fun j e9 hj => by rw [hgr5.block _ (Nat.lt_of_lt_of_le (Array.getElem?_eq_some_iff.1 hj).1 BB.out.size) (fun e8 => by obtain rfl := Option.some.inj e8; obtain ⟨es, ck, h1, -⟩ := hown; rw [h1] at hj; cases hj)]; exact BB.out.block _ (Array.getElem?_eq_some_iff.1 hj).1))
            have E2 := Lib.hid e2
            have E4 := Lib.hid e4
            have hs5 := KW.size
            clear e2 e4 KW hown5 hgr5
            gi_wp2
            go_roundw
            case rel => exact ⟨i + 1, by omega, by go_num, UP, e1, E2, e3, by omega, E4⟩
            case measure => simp [intOf]; omega
          | some b =>
            obtain ⟨o1, lo, ho1, hlo, hE, hd1⟩ := HUI.out.below HX.out hm
            have hhas : Maps.has D (klP x (e.1 - 1)) = true := by rw [HM.out.has _ _ hbx hby1, hm]; rfl
            have hval := HM.out.val _ _ b hbx hby1 hm .nil
            have hbE : wB.heap[b]? = some (eObj (mkE o1 x lo e.1)) := by rw [← hE]; exact (BB.out.block _ (Array.getElem?_eq_some_iff.1 (HED.out _ _ _ hm).2).1).trans (HED.out _ _ _ hm).2
            have hbn := (HED.out _ _ _ hm).1
            have hbr := (HED.out _ _ _ hm).2
            have hbl : b < wr.heap.size := (Array.getElem?_eq_some_iff.1 hbr).1
            have HMB := Lib.hid hm
            have HE := Lib.hid hE
            have HBE := Lib.hid hbE
            have HBR := Lib.hid hbr
            have HD1 := Lib.hid hd1
            clear hm hE hbE hbr hd1
            by_cases ho : o1 = oI i
            · rw [HP3.out] at ho
              subst ho
              gi_wp2_with (first | (gi_at_lookup; refine lookP_some _ rfl _ _ rfl w.heap.size _ D rfl hownB rfl hbx hby1 b hhas hval ?_) | (refine ⟨trivial, ?_⟩; gi_at_call 151; refine (CallsIn.inRound l (callsIn_wide.2 (extend_1 b (mkE 2 x lo e.1) ⟨x, e.1, x, e.1 + 1⟩ _ (by rw [← HWB.out]; exact HBE.out) (by rfl) (by rfl)))).mono ?_; rintro e8 wC ⟨rfl, hC, KC⟩; have cmC : wC.cell? ⟨w.heap.size + 1, 0, none⟩ = some (.map (some w.heap.size)) := (KC.cell (p := ⟨w.heap.size + 1, 0, none⟩) (World.block_lt_of_cell? _ ⟨w.heap.size + 1, 0, none⟩ cmB) (show ¬ w.heap.size + 1 = b by omega)).trans cmB; have hownC := ownsMap_block hownB (KC.block _ hownB.lt (show ¬ w.heap.size = b by omega)); have HC := Lib.hid hC; have KC' := Lib.hid KC; clear hC KC) | (gi_at_mapUpdate; refine putP _ rfl _ _ _ rfl w.heap.size _ D rfl hownC (by unfold maxLen; omega) rfl hbx hby b rfl ?_; intro w5 hown5 hgr5))
              have KC := KC'.out
              rw [← HWB.out] at KC
              have hCm : wC.heap[b]? = some (eObj (mkE (oI i) x lo (e.1 + 1))) := by rw [HP3.out]; exact HC.out
              have KW : Kept (fun k => k = w.heap.size ∨ k = b) wr w5 := (((Kept.of_below BB.out).trans (KC.mono (fun k _ h => .inr h))).trans (kept_grow hgr5))
              obtain ⟨e1, e2, e3, e4⟩ := up_end KW (.inr ⟨_, hbn, HBR.out⟩) (by omega) (by omega) cm H9.out HH.out (by omega) jw KR.out
              have UP : Hid (UpW (dn f e.1 (i + 1)) w.heap.size wS.heap.size (81 * ps.length + i + 1) w5) := Lib.hid (UpW.join HX.out hbx hby HM.out HUI.out HED.out HMB.out (by rw [HE.out, HP3.out]) hlo hown5 (by rw [hgr5.block _ (Array.getElem?_eq_some_iff.1 hCm).1 (fun e9 => by simp at e9; omega)]; exact hCm) (fun j e9 hjb hj => by rw [hgr5.block _ (Nat.lt_of_lt_of_le (Nat.lt_of_lt_of_le (Array.getElem?_eq_some_iff.1 hj).1 BB.out.size) KC.size) (fun e8 => by obtain rfl := Option.some.inj e8; obtain ⟨es, ck, h1, -⟩ := hown; rw [h1] at hj; cases hj), KC.block _ (Nat.lt_of_lt_of_le (Array.getElem?_eq_some_iff.1 hj).1 BB.out.size) hjb]; exact BB.out.block _ (Array.getElem?_eq_some_iff.1 hj).1))
              have E2 := Lib.hid e2
              have E4 := Lib.hid e4
              have hs5 := KW.size
              clear e2 e4 KW hown5 hgr5
              gi_wp2
              go_roundw
              case rel => exact ⟨i + 1, by omega, by go_num, UP, e1, E2, e3, by omega, E4⟩
              case measure => simp [intOf]; omega
            · have ho9 : o1 = 3 := by rcases ho1 with h9 | h9 <;> rcases oI_or i with h8 | h8 <;> rw [HP3.out] at ho <;> omega
              subst ho9
              have hlow : dn f e.1 i (oI i) x (e.1 - 1) = false := dn_excl ho1 (oI_or i) HD1.out (fun h9 => ho h9.symm)
              have HLOW := Lib.hid hlow
              clear hlow ho
              gi_wp2_with (first | (gi_at_lookup; refine lookP_some _ rfl _ _ rfl w.heap.size _ D rfl hownB rfl hbx hby1 b hhas hval ?_) | (refine ⟨trivial, ?_⟩; gi_at_call 151; refine (CallsIn.inRound l (callsIn_wide.2 (extend_0 b (mkE 3 x lo e.1) ⟨x, e.1, x, e.1 + 1⟩ _ (by rw [← HWB.out]; exact HBE.out) (by simp [mkE]; omega) (by simp [mkE]; omega)))).mono ?_; rintro e8 wC ⟨rfl, KC⟩; have cmC : wC.cell? ⟨w.heap.size + 1, 0, none⟩ = some (.map (some w.heap.size)) := keepC KC cmB; have hownC := ownsMap_block hownB (KC.block _ hownB.lt); have KC' := Lib.hid KC; clear KC) | (gi_at_mapUpdate; refine putP _ rfl _ _ _ rfl w.heap.size _ D rfl hownC (by unfold maxLen; omega) rfl hbx hby wr.heap.size rfl ?_; intro w5 hown5 hgr5))
              have KC := KC'.out
              rw [← HWB.out] at KC
              have hCm : wC.heap[wr.heap.size]? = some (eObj (mkE (oI i) x e.1 (e.1 + 1))) := by rw [HP3.out, KC.block _ (Array.getElem?_eq_some_iff.1 HBB.out).1]; exact HBB.out
              have KW : Kept (fun k => k = w.heap.size ∨ k = wr.heap.size) wr w5 := ((Kept.of_below (Ext.trans BB.out KC)).trans (kept_grow hgr5))
              obtain ⟨e1, e2, e3, e4⟩ := up_end KW (.inl (Nat.le_refl _)) (by omega) (by omega) cm H9.out HH.out (by omega) jw KR.out
              have UP : Hid (UpW (dn f e.1 (i + 1)) w.heap.size wS.heap.size (81 * ps.length + i + 1) w5) := Lib.hid (UpW.fresh HX.out hbx hby HM.out HUI.out HED.out HLOW.out (by omega) (Nat.le_refl _) hown5 (by rw [hgr5.block _ (Array.getElem?_eq_some_iff.1 hCm).1 (fun e9 => by simp at e9; omega)]; exact hCm) (fun j e9 hj => by rw [hgr5.block _ (Nat.lt_of_lt_of_le (Nat.lt_of_lt_of_le (Array.getElem?_eq_some_iff.1 hj).1 BB.out.size) KC.size) (fun e8 => by obtain rfl := Option.some.inj e8; obtain ⟨es, ck, h1, -⟩ := hown; rw [h1] at hj; cases hj), KC.block _ (Nat.lt_of_lt_of_le (Array.getElem?_eq_some_iff.1 hj).1 BB.out.size)]; exact BB.out.block _ (Array.getElem?_eq_some_iff.1 hj).1))
              have E2 := Lib.hid e2
              have E4 := Lib.hid e4
              have hs5 := KW.size
              clear e2 e4 KW hown5 hgr5
              gi_wp2
              go_roundw
              case rel => exact ⟨i + 1, by omega, by go_num, UP, e1, E2, e3, by omega, E4⟩
              case measure => simp [intOf]; omega
      · have q1 : ¬ (i : Int) < (RL.length : Int) := by omega
        obtain rfl : i = RL.length := by omega
        have hU8 := UR.out.congr (d' := dnP f (ps ++ [e])) (k' := 81 * (ps ++ [e]).length) (fun o c t ho => by rw [HRL.out]; exact (HSP.out o ho c t).2) (by simp; omega)
        have HU8 := Lib.hid hU8
        clear hU8
        gi_wp2
        exact ⟨KR.out, HU8.out, cm, jw⟩
  case done =>
    rintro D V hDq ⟨hU, i2, i3⟩ hDV
    have hUe : UpW (gS f) w.heap.size w.heap.size (81 * LL.length) V := by
      obtain ⟨D', M, Ed, h1, h2, h3, h4⟩ := hU
      refine ⟨D', M, Ed, h1, h2, h3.congr (fun o c t ho => ?_), fun c t b hb => ⟨Nat.le_trans (by omega) (h4 c t b hb).1, (h4 c t b hb).2⟩⟩
      exact (dnP_all (fun {o c t} ho hg => by rw [HF.out] at hg; rw [HLL.out]; exact rowsQ_side HOK.out ho hg) ho c t).symm
    have HUE := Lib.hid hUe
    clear hU hUe
    dsimp only
    go_wp2_with fail
    refine leaves_one (D := D) (v := .map (some w.heap.size)) hDV (fun w' hw' => ?_)
    refine ⟨by clear hw'; simp [results, Tryz.results122, go_sem], ⟨_, 81 * LL.length, rfl, Nat.le_refl _, by omega, ?_⟩, ?_⟩
    · rw [hw']
      have hDb : D ≠ w.heap.size := by omega
      exact HUE.out.step (World.putObj_heap_other (Ne.symm hDb)) (fun b e _ he => World.putObj_heap_other (fun hb => by rw [hb, hDV] at he; cases he))
    · rw [hw']
      exact i3.trans (below_putObj _ _ (by omega))
  case stop =>
    intro D c ps V _ _ h _
    exact h.elim
end Go.Proofs.YtfbalpkjcfdakaaGreatDoor

namespace Go.Proofs.YtfbalpkjcfdakaaGreatDoor
open Go.RowKit Go.Shelf Go.Maps
set_option linter.unusedVariables false
set_option linter.unusedSimpArgs false
attribute [local go_sem ↓] Go.wp_at_zero Go.wp_at_succ

def mkK (p : Int × Int) : Value := .agg #[.int .i64 p.1, .int .i64 p.2]
def mkP : Option Nat → Value
  | some b => .pointer (some ⟨b, 0, none⟩)
  | none => .pointer none
theorem next_P {P : Program} (hP : P = Tryz.prog) (w : World) {ops : Array Oper} {rest : List Oper} {o : Oper} {a : Act} {Q : Exit → Act → World → Prop} (hg : o.guard = none) (it : Operand) (hop : o.op = Op.next it false)
    (b r n : Nat) (D : DataW Unit) (M : Int → Int → Option Nat) (hM : MapIs D M) (left : Lit → Bool) (cnt : Nat) (hit : a.eval it = .pointer (some ⟨r, 0, none⟩)) (h : w.ranges Tryz.prog 107 ptrElem b r n D left cnt)
    (hDone : cnt = 0 → (∀ kl, left kl = false) → wpList Tryz.prog ops Q rest (a.put o.dst (.tuple #[.bool false])) w)
    (hMore : ∀ (c t : Int) (k : Nat) (w' : World) (cnt' : Nat), Bd c → Bd t → M c t = some k → left (klP c t) = true → w'.ranges Tryz.prog 107 ptrElem b r n D (fun z => left z && !z.sameKey (klP c t)) cnt' → cnt' < cnt → w.grownBy w' (some r) → w'.heap.size = w.heap.size →
      (Instr.entry (.pointer (some ⟨r, 0, none⟩))).run Tryz.prog w' = .ok (.tuple #[.agg #[.int .i64 c, .int .i64 t], .pointer (some ⟨k, 0, none⟩)]) w' → wpList Tryz.prog ops Q rest (a.put o.dst (.tuple #[.bool true, .agg #[.int .i64 c, .int .i64 t], .pointer (some ⟨k, 0, none⟩)])) w') :
    wpList Tryz.prog ops Q (o :: rest) a w := by
  refine wpList_next_ranges w hg it hop 107 keyedP ptrElem mkK mkP (fun key kl hk => ?_) (fun v y hv => ?_) b r n D left cnt hit h hDone ?_
  · obtain ⟨x, y, rfl, -⟩ := keyP_inv hk
    exact ⟨(x, y), rfl⟩
  · rcases ptrElem_inv (d := y.1) (ps := y.2) hv with ⟨k, rfl, -⟩ | ⟨rfl, -⟩
    · exact ⟨some k, rfl⟩
    · exact ⟨none, rfl⟩
  · intro x c kl y w' cnt' hkey hl hv hat hrg hlt hgr hsz hen
    obtain ⟨c1, t1, e1, rfl⟩ := keyP_inv hkey
    obtain ⟨hc, ht⟩ : x.1 = c1 ∧ x.2 = t1 := by simpa [mkK] using e1
    have hhas := has_true_of_atKey hat
    obtain ⟨c2, t2, b1, b2, e2⟩ := hM.keys _ hhas
    obtain ⟨k, hk⟩ : ∃ k, M c2 t2 = some k := Option.isSome_iff_exists.1 (by rw [← hM.has _ _ b1 b2, ← e2]; exact hhas)
    have hval := hM.val _ _ k b1 b2 hk .nil
    rw [← e2, hat] at hval
    have hcv : mkP c = .pointer (some ⟨k, 0, none⟩) := by
      rcases ptrElem_inv (d := y.1) (ps := y.2) hv with ⟨j, e, d⟩ | ⟨e, d⟩
      · rw [e]
        rw [d] at hval
        rw [pE_inj hval]
      · rw [d] at hval
        exact absurd hval.symm (pE_nil k)
    have hkx : mkK x = .agg #[.int .i64 c2, .int .i64 t2] := by
      have h2 := keyOfP b1 b2
      rw [← e2] at h2
      exact keyedP.inj hkey h2
    rw [hcv, hkx] at hen ⊢
    rw [e2] at hl hrg
    exact hMore c2 t2 k w' cnt' b1 b2 hk hl hrg hlt hgr hsz hen

/-- The upright edges of a set. -/
def VertE (f : Nat → Bool) (e : R4) : Prop := ∃ (o : Nat) (c lo hi : Int), (o = 2 ∨ o = 3) ∧ MaxI (gS f o c) lo hi ∧ e = mkE o c lo hi
def VRes (base : Nat) (f : Nat → Bool) (e : Ending) (w : World) : Prop := ∃ (v : Value) (L : List R4), e = .returned v ∧ w.ownsRow base 55 4 v L.length (recCells L) ∧ L.length ≤ 6561 ∧ L.Nodup ∧ ∀ g, g ∈ L ↔ VertE f g

theorem ranges_drew {w : World} {P : Program} {k : TypeId} {R : Value → Option (DataW Unit × List MemPlace)} {b r n : Nat} {D : DataW Unit} {left : Lit → Bool} {cnt : Nat} (h : w.ranges P k R b r n D left cnt) : w.drew.ranges P k R b r n D left cnt := by
  unfold World.ranges at *
  exact h
theorem infoEg : (Tryz.prog.info? 55).map (fun i => (i.zero, i.size, i.bytes)) = some (some (.agg #[.int .i64 0, .int .i64 0, .int .i64 0, .int .i64 0]), 4, 32) := by kernel_rfl
/-- What has been collected: the edges of the lowest sides that have come out of the map. -/
def CollE (M : Int → Int → Option Nat) (Ed : Nat → R4) (left : Lit → Bool) (L : List R4) : Prop :=
  L.Nodup ∧ ∀ g, g ∈ L ↔ ∃ c t b, (Bd c ∧ Bd t) ∧ M c t = some b ∧ left (klP c t) = false ∧ Ed b = g ∧ t = min g.b g.d
theorem CollE.start {D : DataW Unit} {M : Int → Int → Option Nat} (hM : MapIs D M) (Ed : Nat → R4) : CollE M Ed (Maps.has D) [] :=
  ⟨.nil, fun g => ⟨fun h => by simp at h, fun ⟨c, t, b, ⟨b1, b2⟩, h1, h2, _⟩ => by rw [hM.has _ _ b1 b2, h1] at h2; cases h2⟩⟩
theorem left_iff {left : Lit → Bool} {c t c' t' : Int} (b1 : Bd c) (b2 : Bd t) (b1' : Bd c') (b2' : Bd t') : (left (klP c' t') && !(klP c' t').sameKey (klP c t)) = false ↔ left (klP c' t') = false ∨ (c' = c ∧ t' = t) := by
  by_cases e : c' = c ∧ t' = t
  · rw [e.1, e.2, WideAt.sameKey_self (isKeyP b1 b2)]
    simp
  · rw [sameKey_ne (fun h => e (klP_inj b1' b2' b1 b2 h))]
    simp [e]
theorem CollE.skip {M : Int → Int → Option Nat} {Ed : Nat → R4} {left : Lit → Bool} {L : List R4} (h : CollE M Ed left L) {c t : Int} {k : Nat} (b1 : Bd c) (b2 : Bd t) (hk : M c t = some k) (hm : t ≠ min (Ed k).b (Ed k).d) : CollE M Ed (fun z => left z && !z.sameKey (klP c t)) L := by
  refine ⟨h.1, fun g => (h.2 g).trans ⟨?_, ?_⟩⟩
  · rintro ⟨c', t', b', ⟨d1, d2⟩, h1, h2, h3⟩
    exact ⟨c', t', b', ⟨d1, d2⟩, h1, (left_iff b1 b2 d1 d2).2 (.inl h2), h3⟩
  · rintro ⟨c', t', b', ⟨d1, d2⟩, h1, h2, h3, h4⟩
    rcases (left_iff b1 b2 d1 d2).1 h2 with h5 | ⟨rfl, rfl⟩
    · exact ⟨c', t', b', ⟨d1, d2⟩, h1, h5, h3, h4⟩
    · rw [hk] at h1
      cases h1
      rw [← h3] at h4
      exact absurd h4 hm
theorem CollE.take {d : Nat → Int → Int → Bool} {M : Int → Int → Option Nat} {Ed : Nat → R4} {left : Lit → Bool} {L : List R4} (h : CollE M Ed left L) (hU : UpI d M Ed) {c t : Int} {k : Nat} (b1 : Bd c) (b2 : Bd t) (hk : M c t = some k) (hl : left (klP c t) = true) (hm : t = min (Ed k).b (Ed k).d) :
    CollE M Ed (fun z => left z && !z.sameKey (klP c t)) (L ++ [Ed k]) := by
  have hcol : ∀ {c' t' b'}, M c' t' = some b' → Ed b' = Ed k → c' = c := fun {c' t' b'} h1 h2 => by
    obtain ⟨o, lo, hi, ho, hmx, -, -, e⟩ := hU.edge _ _ _ hk
    obtain ⟨o', lo', hi', ho', hmx', -, -, e'⟩ := hU.edge _ _ _ h1
    exact ((mkE_inj (o23 ho) (o23 ho') hmx.1 hmx'.1 (e.symm.trans (h2.symm.trans e'))).2.1).symm
  refine ⟨?_, fun g => ?_⟩
  · rw [List.nodup_append]
    refine ⟨h.1, by simp, fun a ha b' hb' e => ?_⟩
    rw [List.mem_singleton] at hb'
    subst hb'
    obtain ⟨c', t', j, ⟨d1, d2⟩, h1, h2, h3, h4⟩ := (h.2 a).1 ha
    have hc := hcol h1 (h3.trans e)
    rw [e] at h4
    rw [hc, h4, ← hm, hl] at h2
    cases h2
  · rw [List.mem_append, List.mem_singleton, h.2]
    constructor
    · rintro (⟨c', t', b', ⟨d1, d2⟩, h1, h2, h3⟩ | rfl)
      · exact ⟨c', t', b', ⟨d1, d2⟩, h1, (left_iff b1 b2 d1 d2).2 (.inl h2), h3⟩
      · exact ⟨c, t, k, ⟨b1, b2⟩, hk, (left_iff b1 b2 b1 b2).2 (.inr ⟨rfl, rfl⟩), rfl, hm⟩
    · rintro ⟨c', t', b', ⟨d1, d2⟩, h1, h2, h3, h4⟩
      rcases (left_iff b1 b2 d1 d2).1 h2 with h5 | ⟨rfl, rfl⟩
      · exact .inl ⟨c', t', b', ⟨d1, d2⟩, h1, h5, h3, h4⟩
      · rw [hk] at h1
        cases h1
        exact .inr h3.symm
theorem mkE_min {o : Nat} {c lo hi : Int} (ho : o = 2 ∨ o = 3) (h : lo < hi) : min (mkE o c lo hi).b (mkE o c lo hi).d = lo := by
  rcases ho with rfl | rfl <;> simp only [mkE] <;> omega
theorem CollE.done {f : Nat → Bool} {M : Int → Int → Option Nat} {Ed : Nat → R4} {left : Lit → Bool} {L : List R4} (h : CollE M Ed left L) (hU : UpI (gS f) M Ed) (hl : ∀ kl, left kl = false) (g : R4) : g ∈ L ↔ VertE f g := by
  rw [h.2]
  constructor
  · rintro ⟨c, t, b, -, h1, -, rfl, -⟩
    obtain ⟨o, lo, hi, ho, hm, -, -, e⟩ := hU.edge _ _ _ h1
    exact ⟨o, c, lo, hi, ho, hm, e⟩
  · rintro ⟨o, c, lo, hi, ho, hm, rfl⟩
    have hg := hm.2.1 lo (Int.le_refl _) hm.1
    have hb := gS_t hg
    have hs : (M c lo).isSome = true := by
      rw [hU.dom]
      rcases ho with rfl | rfl <;> simp [hg]
    obtain ⟨b, hb'⟩ := Option.isSome_iff_exists.1 hs
    obtain ⟨o', lo', hi', ho', hm', t1, t2, e⟩ := hU.edge _ _ _ hb'
    have hg' := hm'.2.1 lo t1 t2
    have hoo : o' = o := by
      rcases ho with rfl | rfl <;> rcases ho' with rfl | rfl
      · rfl
      · rw [gS23 _ _ _ hg] at hg'; cases hg'
      · rw [gS23 _ _ _ hg'] at hg; cases hg
      · rfl
    subst hoo
    obtain ⟨rfl, rfl⟩ := hm.eq hm' (Int.le_refl _) hm.1 t1 t2
    exact ⟨c, lo, b, ⟨⟨by omega, by omega⟩, ⟨by omega, by omega⟩⟩, hb', hl _, e, (mkE_min ho hm.1).symm⟩
theorem own_lower {w : World} {base base' n : Nat} {v : Value} {xs : List Value} (h : w.ownsRow base 55 4 v n xs) (hb : base' ≤ base) : w.ownsRow base' 55 4 v n xs := by
  refine ⟨h.1, ?_⟩
  rcases h.2 with h' | ⟨g, cap, cur, e1, e2, e3⟩
  · exact .inl h'
  · exact .inr ⟨g, cap, cur, e1, by omega, e3⟩

theorem e1_newsW {w1 : World} {t : TypeId} (a b c d : Int) : ∀ j u, ([.int .i64 a, .int .i64 b, .int .i64 c, .int .i64 d] : List Value)[j]? = some u → (w1.alloc (.cells #[.int .i64 a, .int .i64 b, .int .i64 c, .int .i64 d] t)).cell? ((⟨w1.heap.size, 0, none⟩ : Addr).add j) = some u := by
  intro j u hj
  match j, hj with
  | 0, hj => simp at hj; subst hj; rw [addG]; simp [go_sem]
  | 1, hj => simp at hj; subst hj; rw [addG]; simp [go_sem]
  | 2, hj => simp at hj; subst hj; rw [addG]; simp [go_sem]
  | 3, hj => simp at hj; subst hj; rw [addG]; simp [go_sem]
  | (k + 4), hj => simp at hj
theorem e1_newsX {w1 : World} {t : TypeId} {b' : Nat} (hb : b' = w1.heap.size) (a b c d : Int) : ∀ j u, ([.int .i64 a, .int .i64 b, .int .i64 c, .int .i64 d] : List Value)[j]? = some u → (w1.alloc (.cells #[.int .i64 a, .int .i64 b, .int .i64 c, .int .i64 d] t)).cell? ((⟨b', 0, none⟩ : Addr).add j) = some u := by
  subst hb
  exact e1_newsW a b c d
theorem ints_oneW (a b c d : Int) : ∀ u ∈ ([.int .i64 a, .int .i64 b, .int .i64 c, .int .i64 d] : List Value), u.oneCell' = true := fun u hu => by
  simp at hu
  rcases hu with rfl | rfl | rfl | rfl <;> rfl

set_option maxRecDepth 100000 in
set_option maxHeartbeats 8000000 in
theorem uprightEdges_any (m : Option Addr) (n cap : Nat) (P Q R S : Nat → Int) (w : World) (hn : n ≤ 1048576) (hcap : n ≤ cap) (hD : EnvW w) (hR : RectsIs w.heap.size w m n P Q R S) (hok : okR P Q R S n = true) :
    Calls Tryz.prog 75 #[.slice m n cap] w fun e w' => VRes w.heap.size (covF P Q R S n) e w' ∧ Below w.heap.size w w' := by
  obtain ⟨f, hf⟩ : ∃ f, f = covF P Q R S n := ⟨_, rfl⟩
  have hup := fun w' hD' hR' => uprightSides_any m n cap P Q R S w' hn hcap hD' hR' hok
  rw [← hf] at hup ⊢
  clear hf
  obtain ⟨i0, hin, hz0, hz1, hz2⟩ := info_parts infoEg
  go_enter Tryz.func75, Tryz.ntmps75
  go_wp2_with (first | (go_at_call 122; refine (hup _ (hD.ext (by (repeat (first | (with_reducible exact Below.refl _ _) | (with_reducible refine Ext.drewN ?_ _) | (with_reducible refine Below.drew ?_) | (with_reducible refine Ext.alloc ?_ _) | (with_reducible refine Ext.setCell ?_ (by simp; try omega) _) | (with_reducible refine Ext.trans ?_ (by assumption)) | (with_reducible assumption) | exact Below.refl _ _)))) (hR.ext (by (repeat (first | (with_reducible exact Below.refl _ _) | (with_reducible refine Ext.drewN ?_ _) | (with_reducible refine Below.drew ?_) | (with_reducible refine Ext.alloc ?_ _) | (with_reducible refine Ext.setCell ?_ (by simp; try omega) _) | (with_reducible refine Ext.trans ?_ (by assumption)) | (with_reducible assumption) | exact Below.refl _ _))))).mono ?_; rintro e w1 ⟨⟨mb, k, rfl, hmb, hk, D, M, Ed, hown, hM, hU, hE⟩, bw1⟩) | (at_range; refine wpList_range_own _ rfl _ 161 rfl 107 163 keyedP mapHT ptrElem mb k D rfl hown ?_; intro w0 hrg0 hg0 hs0))
  go_frame
  have hsz : Maps.size D ≤ k := hown.size_le
  have b0 : Below w1.heap.size w1 w0 := ⟨hg0.os, hg0.tape, hg0.output, hg0.size, fun j hj => hg0.block j hj (by simp)⟩
  have HE := Lib.hid hE
  have HM := Lib.hid hM
  have HU := Lib.hid hU
  have mbl := hown.lt
  have bw1s := bw1.size
  clear hE hM hU hown hup
  go_loopw [3] (fun s3 wr => ∃ (left : Lit → Bool) (cnt : Nat) (L : List R4), wr.ranges Tryz.prog 107 ptrElem mb w1.heap.size k D left cnt ∧ Hid (wr.ownsRow (w1.heap.size + 1) 55 4 s3 L.length (recCells L)) ∧ Hid (CollE M Ed left L) ∧ Hid (Below w1.heap.size w1 wr) ∧ L.length + cnt ≤ k ∧ w1.heap.size + 1 ≤ wr.heap.size) (fun _ wr => wr.rangeLeft mb w1.heap.size)
  case atStart => exact ⟨_, _, [], hrg0, Lib.hid (World.ownsRow_nil _ _ _ _), Lib.hid (CollE.start HM.out Ed), Lib.hid b0, by simpa using hsz, by omega⟩
  case round =>
    obtain ⟨left, cnt, L, hrg, HO, HC, HB, hlen, hwr⟩ := hrel
    have hreq := hrg.left_eq
    clear hrg0 hg0 hs0
    go_wp2_with (at_next; refine next_P rfl _ rfl _ rfl mb w1.heap.size k D M HM.out left cnt rfl hrg ?_ ?_)
    · intro hc0 hl0
      have HL0 := Lib.hid hl0
      clear hl0
      go_wp2_with fail
      refine bodyPost_ret (results_tmp rfl _ _ _) rfl ⟨⟨_, L, rfl, own_lower HO.out (by omega), by omega, HC.out.1, fun g => HC.out.done HU.out HL0.out g⟩, Ext.trans bw1 HB.out⟩
    · intro c t kk w2 cnt2 bc bt hkk hlk hrg2 hlt2 hg2 hs2 hen
      obtain ⟨e, he⟩ : ∃ e, e = Ed kk := ⟨_, rfl⟩
      have hk1 := (HE.out c t kk hkk).2
      have hk1l : kk < w1.heap.size := (Array.getElem?_eq_some_iff.1 hk1).1
      have hk2 : w2.heap[kk]? = some (eObj e) := by
        rw [he, hg2.block _ (by omega) (fun h => by simp at h; omega)]
        exact (HB.out.block _ hk1l).trans hk1
      obtain ⟨⟨c0, c1, c2, c3⟩, -⟩ := eObj_cells hk2
      have HO2 := Lib.hid (HO.out.kept hg2 (.inr fun h => by have := (HO.out.lt _ h).1; omega))
      have hB2 : Below w1.heap.size w1 w2 := HB.out.trans ⟨hg2.os, hg2.tape, hg2.output, hg2.size, fun j hj => hg2.block j (by omega) (fun h => by simp at h; omega)⟩
      have HB2 := Lib.hid hB2
      have HKK := Lib.hid hkk
      have HLK := Lib.hid hlk
      have HEE := Lib.hid he
      have hw2 : w1.heap.size + 1 ≤ w2.heap.size := by omega
      have kl2 : kk < w2.heap.size := by omega
      clear hk1 hk2 hkk hlk he hs2 hB2 hg2
      cases hq : (t == if e.d < e.b then e.d else e.b) with
      | false =>
        have hne : t ≠ min e.b e.d := fun h => by
          rw [Bool.eq_false_iff] at hq
          exact hq (by rw [beq_iff_eq, h]; split <;> omega)
        have HNE := Lib.hid hne
        clear hne
        have hrg3 := ranges_drew (hrg2.alloc (.cells #[.int .i64 c, .int .i64 t] 107))
        go_wp2_with fail
        go_region
        go_wp2_with fail
        go_roundw
        case rel => exact ⟨_, cnt2, L, hrg3, Lib.hid ((HO2.out.alloc _).drew), Lib.hid (HC.out.skip bc bt HKK.out (by rw [← HEE.out]; exact HNE.out)), Lib.hid ((Ext.alloc HB2.out _).drew), by omega, by simp; omega⟩
        case measure => exact (show World.rangeLeft _ mb w1.heap.size < World.rangeLeft wr mb w1.heap.size by rw [hreq]; exact (hrg3.left_eq ▸ hlt2 : World.rangeLeft (w2.alloc (.cells #[.int .i64 c, .int .i64 t] 107)).drew mb w1.heap.size < cnt))
      | true =>
        have heq : t = min e.b e.d := by
          rw [beq_iff_eq] at hq
          rw [hq]
          split <;> omega
        have HEQ := Lib.hid heq
        clear heq
        have hrg3 := (ranges_drew (hrg2.alloc (.cells #[.int .i64 c, .int .i64 t] 107))).alloc (.cells #[.int .i64 e.a, .int .i64 e.b, .int .i64 e.c, .int .i64 e.d] 55)
        go_wp2_with fail
        go_region
        go_wp2_with (at_builtin; go_loud (refine wpList_append_own _ rfl _ _ 47 rfl (w1.heap.size + 1) 55 i0 (.agg #[.int .i64 0, .int .i64 0, .int .i64 0, .int .i64 0]) 4 32 Tryz.underlying47 hin hz0 hz1 hz2 rfl (by decide) _ _ _ rfl ((HO2.out.alloc _).drew.alloc _) ⟨_, 0, none⟩ 1 1 [.int .i64 _, .int .i64 _, .int .i64 _, .int .i64 _] rfl rfl (e1_newsX (by simp) _ _ _ _) (ints_oneW _ _ _ _) (by unfold maxLen; omega) (by omega) (by simp; omega) ?_); intro v' w3 hown3 hgrow hnil)
        have hob : ∀ j, u3.ownBlock = some j → w1.heap.size + 1 ≤ j := fun j hj => (HO2.out.lt j hj).1
        have hrg4 := World.ranges.kept (w := ((w2.alloc (.cells #[.int .i64 c, .int .i64 t] 107)).drew.alloc (.cells #[.int .i64 e.a, .int .i64 e.b, .int .i64 e.c, .int .i64 e.d] 55))) hrg3 hgrow (fun h => by have := hob _ h.symm; omega) (fun h => by have := hob _ h.symm; omega)
        have hB3 : Below w1.heap.size w1 w3 := by
          have h9 : Below w1.heap.size w1 ((w2.alloc (.cells #[.int .i64 c, .int .i64 t] 107)).drew.alloc (.cells #[.int .i64 e.a, .int .i64 e.b, .int .i64 e.c, .int .i64 e.d] 55)) := Ext.alloc (Ext.alloc HB2.out _).drew _
          exact h9.grown hgrow h9.size (fun j hj => by have := hob j hj; omega)
        have hs9 := hgrow.size
        have hl4 := hrg4.left_eq
        have OW := Lib.hid hown3
        have HB3 := Lib.hid hB3
        clear hown3 hgrow hnil hB3
        go_wp2_with fail
        go_roundw
        case rel => exact ⟨_, cnt2, L ++ [e], hrg4, Lib.hid (by rw [recCells_snoc, List.length_append]; exact OW.out), Lib.hid (by rw [HEE.out]; exact HC.out.take HU.out bc bt HKK.out HLK.out (by rw [← HEE.out]; exact HEQ.out)), HB3, by simp; omega, by simp at hs9; omega⟩
        case measure => rw [hl4, hreq]; exact hlt2
end Go.Proofs.YtfbalpkjcfdakaaGreatDoor
