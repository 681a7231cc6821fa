/- The rectangles of a set's region, as an iterator. Conditions: the set's rows are in memory and kept by the rounds; the table of math/bits is in memory. -/
import Derived.Test.YtciodcknobccdaaDoorRiJ
import Derived.Test.YtciodcknobccdaaDoorRiW
import Derived.Deep.CutBlock
namespace Go.Proofs.YtciodcknobccdaaDoor
open Go.RowKit Go.Shelf
set_option linter.unusedVariables false
set_option linter.unusedSimpArgs false
attribute [local go_sem] Oper.semAt_some

theorem region_any (b : Nat) (w : World) :
    Calls Tryd.prog 132 #[.pointer (some ⟨b, 0, none⟩)] w fun e w' => e = .returned (.func (.func 152) #[] #[.pointer (some ⟨w.heap.size, 0, none⟩)]) ∧ w' = w.alloc (.cells #[.pointer (some ⟨b, 0, none⟩)] 207) := by
  have hmf : ∀ (fn : Fn) (first cap : Array Value) (w : World), (Instr.makeFunc fn first cap).run Tryd.prog w = .ok (.func fn first cap) w := fun _ _ _ _ => rfl
  go_enter Tryd.func132, Tryd.ntmps132
  go_wp2
  go_ret
  exact ⟨rfl, rfl⟩

/-- The number in the cell that a pointer names. -/
def cellN (w : World) : Value → Nat
  | .pointer (some p) => match w.cell? p with | some (.int _ q) => q.toNat | _ => 0
  | _ => 0
theorem cellN_eq {w : World} {g i : Nat} (h : w.cell? ⟨g, 0, none⟩ = some (.int .i64 (i : Int))) : cellN w (.pointer (some ⟨g, 0, none⟩)) = i := by simp [cellN, h]

theorem Kept.far {X : Nat → Prop} {a b c : World} (h : Kept X a b) (hb : Below a.heap.size b c) : Kept X a c :=
  ⟨hb.os.trans h.os, hb.tape.trans h.tape, hb.output.trans h.output, Nat.le_trans h.size hb.size, fun k hk hX => (hb.block k hk).trans (h.block k hk hX)⟩
theorem range_mid {M b : Nat} {a c : List Nat} (h : List.range M = a ++ b :: c) : a = List.range a.length ∧ b = a.length ∧ a.length < M := by
  have hl := congrArg List.length h
  simp only [List.length_range, List.length_append, List.length_cons] at hl
  have hb : (List.range M)[a.length]? = some b := by rw [h]; simp
  rw [List.getElem?_range (by omega)] at hb
  refine ⟨?_, by simpa using hb.symm, by omega⟩
  have ht := congrArg (List.take a.length) h
  rw [List.take_left, List.take_range, Nat.min_eq_left (by omega)] at ht
  exact ht.symm

/-- The marks of loops that are over. -/
def markD (D : Nat) : Deferred := { target := .collected D, args := #[] }
structure MarksOK (B : Nat) (Ds : List Nat) (w : World) : Prop where
  nodup : Ds.Nodup
  ge : ∀ D, D ∈ Ds → B ≤ D
  obj : ∀ D, D ∈ Ds → w.heap[D]? = some (.deferred (some []))
theorem MarksOK.nil (B : Nat) (w : World) : MarksOK B [] w := ⟨.nil, fun D h => by simp at h, fun D h => by simp at h⟩
theorem MarksOK.lt {B : Nat} {Ds : List Nat} {w : World} (h : MarksOK B Ds w) {D : Nat} (hD : D ∈ Ds) : D < w.heap.size := (Array.getElem?_eq_some_iff.1 (h.obj D hD)).1
theorem MarksOK.kept {B : Nat} {Ds : List Nat} {w w' : World} {X : Nat → Prop} (h : MarksOK B Ds w) (hk : Kept X w w') (hX : ∀ D, D ∈ Ds → ¬ X D) : MarksOK B Ds w' :=
  ⟨h.nodup, h.ge, fun D hD => (hk.block D (h.lt hD) (hX D hD)).trans (h.obj D hD)⟩
theorem MarksOK.ext {B : Nat} {Ds : List Nat} {w w' : World} (h : MarksOK B Ds w) (hb : Below w.heap.size w w') : MarksOK B Ds w' := h.kept (X := fun _ => False) (Kept.of_below hb) (fun _ _ h => h)
theorem MarksOK.cons {B D : Nat} {Ds : List Nat} {w : World} (h : MarksOK B Ds w) (hD : w.heap[D]? = some (.deferred (some []))) (hB : B ≤ D) (hn : D ∉ Ds) : MarksOK B (D :: Ds) w :=
  ⟨List.nodup_cons.2 ⟨hn, h.nodup⟩, fun D' h' => (List.mem_cons.1 h').elim (fun e => e ▸ hB) (h.ge _), fun D' h' => (List.mem_cons.1 h').elim (fun e => e ▸ hD) (h.obj _)⟩
theorem MarksOK.ne {B g : Nat} {Ds : List Nat} {w : World} {v : Value} (h : MarksOK B Ds w) (hc : w.cell? ⟨g, 0, none⟩ = some v) : ∀ D, D ∈ Ds → D ≠ g := fun D hD e => by
  subst e
  have := h.obj D hD
  simp [World.cell?, this] at hc
/-- The block's cells, if it has any, are of type int. -/
def IntB (k : Nat) (w : World) : Prop := ∀ (cs : Array Value) (t : TypeId), w.heap[k]? = some (Obj.cells cs t) → t = 3
theorem IntB.of_eq {k : Nat} {w w' : World} (h : IntB k w) (e : w'.heap[k]? = w.heap[k]?) : IntB k w' := fun cs t h' => h cs t (e ▸ h')
theorem IntB.alloc (w : World) (cs : Array Value) : IntB w.heap.size (w.alloc (.cells cs 3)) := fun cs' t' h => by
  rw [World.alloc_heap_new] at h
  cases h
  rfl
theorem heap_setCell_any (w : World) (p : Addr) (v : Value) (k : Nat) (cs : Array Value) (t : TypeId) (h : (w.setCell p v).heap[k]? = some (Obj.cells cs t)) : ∃ cs', w.heap[k]? = some (Obj.cells cs' t) := by
  by_cases e : k = p.block
  · subst e
    simp only [World.setCell, Array.getElem?_modify, if_true] at h
    cases ho : w.heap[p.block]? with
    | none => rw [ho] at h; cases h
    | some o =>
      rw [ho] at h
      cases o with
      | cells c e f =>
        simp only [Option.map_some, Option.some.injEq, Obj.cells.injEq] at h
        obtain ⟨-, rfl, rfl⟩ := h
        exact ⟨c, rfl⟩
      | _ => simp at h
  · rw [Below.heap_setCell _ _ _ _ e] at h
    exact ⟨cs, h⟩
theorem IntB.setCell {k : Nat} {w : World} (h : IntB k w) (p : Addr) (v : Value) : IntB k (w.setCell p v) := fun cs t e => by
  obtain ⟨cs', e'⟩ := heap_setCell_any w p v k cs t e
  exact h cs' t e'
/-- The blocks that a caller may turn while it takes the rectangles: rows of rectangles. -/
abbrev RectT : TypeId → Prop := fun t => t = 142
/-- The block is no row of rectangles. -/
def NR (k : Nat) (w : World) : Prop := ∀ (cs : Array Value) (t : TypeId), w.heap[k]? = some (Obj.cells cs t) → ¬ t = 142
theorem NR.of_eq {k : Nat} {w w' : World} (h : NR k w) (e : w'.heap[k]? = w.heap[k]?) : NR k w' := fun cs t h' => h cs t (e ▸ h')
theorem IntB.nr {k : Nat} {w : World} (h : IntB k w) : NR k w := fun cs t e => by rw [h cs t e]; decide
theorem NR.alloc (w : World) (cs : Array Value) (t : TypeId) (ht : ¬ t = 142) : NR w.heap.size (w.alloc (.cells cs t)) := fun cs' t' h => by
  rw [World.alloc_heap_new] at h
  cases h
  exact ht
theorem StepX.of_kept {n : Nat} {A B : World} {X : Nat → Prop} (hk : Kept X A B) (hn : n ≤ A.heap.size) (h1 : ∀ k, X k → n ≤ k) (h2 : ∀ k, X k → IntB k A) : StepX n (fun t => t = 3) A B :=
  ⟨hk.below (n := n) hn (fun k hk' e => by have := h1 k e; omega), fun k cs t ht e => hk.block k (Array.getElem?_eq_some_iff.1 e).1 (fun h => ht (h2 k h cs t e))⟩
theorem leaves_marks {P : Program} {fn : Func} {tmps : Array Value} {R : Ending → World → Prop} (hr : fn.results = #[]) {B : Nat} {T : TypeId → Prop} : ∀ (Ds : List Nat) (w : World), MarksOK B Ds w → (∀ w', StepX B T w w' → R (.returned (.tuple #[])) w') →
    LeavesInM Fence.wide 9 P fn tmps R (Ds.map markD) .returning w
  | [], w, _, h => ⟨_, results_none hr _ _ _, h w (StepX.refl _ _ _)⟩
  | D :: Ds, w, hm, h => by
    have hD := hm.obj D (by simp)
    have hnd := List.nodup_cons.1 hm.nodup
    refine ⟨by simp, .inl ⟨D, w.putObj D (.deferred none), rfl, run_takeDeferred hD, leaves_marks hr Ds _ ?_ fun w' hb => h w' ((StepX.putObj _ _ (hm.ge D (by simp)) (fun cs t e => by rw [hD] at e; cases e)).trans hb)⟩⟩
    exact ⟨hnd.2, fun D' h' => hm.ge D' (by simp [h']), fun D' h' => (World.putObj_heap_other (fun e => hnd.1 (by rw [← e]; exact h'))).trans (hm.obj D' (by simp [h']))⟩

/-- What holds where the loop over the bands begins a round. -/
def RegInv (X : Nat → Prop) (N : Nat) (f : Nat → Bool) (G : Nat → Nat) (W : World) (B0 Br l : Nat) (L : List R4) (J : List R4 → World → Prop) (a' : Act) (wr : World) : Prop :=
  ∃ (u4 u5 u6 u7 u8 u9 u10 u11 u12 u13 u14 u15 u16 u17 u18 u19 u20 u21 u22 u23 u24 u25 u26 u27 u28 u29 u30 u31 u32 u33 u35 u36 u37 u38 u39 u40 u41 u42 u43 u44 u45 u46 u47 u48 u49 u50 : Value) (Ds : List Nat) (g i n : Nat) (pre : List R4), (W.heap.size < g ∧ wr.cell? ⟨g, 0, none⟩ = some (.int .i64 (i : Int)) ∧ wr.frozen? ⟨g, 0, none⟩ = false ∧ i ≤ 80 ∧ 80 - i ≤ n ∧ L = pre ++ canonF f n ((i : Int) - 40) ∧ J pre wr ∧ W.heap.size < wr.heap.size ∧ wr.cell? ⟨W.heap.size, 0, none⟩ = some (.func (.yield l) #[] #[]) ∧ wr.cell? ⟨B0, 0, none⟩ = some (.pointer (some ⟨Br, 0, none⟩)) ∧ RowsAt wr Br G ∧ DebW wr ∧ MarksOK W.heap.size Ds wr ∧ IntB g wr ∧ NR W.heap.size wr ∧ Hid (¬ Ex X N RectT wr B0 ∧ ¬ Ex X N RectT wr Br ∧ ¬ Ex X N RectT wr 2)) ∧
    a' = { tmps := (.func (.yield l) #[] #[] :: .pointer (some ⟨B0, 0, none⟩) :: .pointer (some ⟨W.heap.size, 0, none⟩) :: .pointer (some ⟨g, 0, none⟩) :: u4 :: u5 :: u6 :: u7 :: u8 :: u9 :: u10 :: u11 :: u12 :: u13 :: u14 :: u15 :: u16 :: u17 :: u18 :: u19 :: u20 :: u21 :: u22 :: u23 :: u24 :: u25 :: u26 :: u27 :: u28 :: u29 :: u30 :: u31 :: u32 :: u33 :: undef :: u35 :: u36 :: u37 :: u38 :: u39 :: u40 :: u41 :: u42 :: u43 :: u44 :: u45 :: u46 :: u47 :: u48 :: u49 :: u50 :: []).toArray, defers := Ds.map markD }

set_option maxRecDepth 100000 in
set_option maxHeartbeats 8000000 in
theorem region_seqU (X : Nat → Prop) (N : Nat) (B0 Br : Nat) (f : Nat → Bool) (G : Nat → Nat) (W : World) (h0 : W.cell? ⟨B0, 0, none⟩ = some (.pointer (some ⟨Br, 0, none⟩))) (hG : RowsAt W Br G) (hf : RowsOK f G) (hD : DebW W)
    (x0 : ¬ Ex X N RectT W B0) (x1 : ¬ Ex X N RectT W Br) (x2 : ¬ Ex X N RectT W 2) (hX : ∀ k, X k → k < W.heap.size) :
    SeqU Tryd.prog 152 #[.pointer (some ⟨B0, 0, none⟩)] (fun r : R4 => #[.agg #[.int .i64 r.a, .int .i64 r.b, .int .i64 r.c, .int .i64 r.d]]) X N RectT (fun t => t = 3) (canonL f) W := by
  intro l J Jx hJ hJx hY hJ0
  obtain ⟨L, hL⟩ : ∃ L, L = canonL f := ⟨_, rfl⟩
  rw [← hL] at hY ⊢
  have hL0 : L = [] ++ canonF f 80 (((0 : Nat) : Int) - 40) := by
    rw [List.nil_append, show ((0 : Nat) : Int) - 40 = -40 by omega]
    exact hL
  have HF := Lib.hid hf
  clear hL hf
  refine calls_of_marks Tryd.func152 rfl ?_
  simp only [Tryd.ntmps152, List.size_toArray, List.length_cons, List.length_nil, Nat.reduceAdd, Nat.reduceSub, Array.replicate_succ, Array.replicate_zero, List.push_toArray, List.append_toArray, List.nil_append, List.cons_append]
  go_wp2_with fail
  go_step3
  go_wp2_with fail
  go_step3
  go_wp2_with fail
  refine wp_loop (RegInv X N f G W B0 Br l L J) (fun a' wr => 80 - cellN wr (a'.tmps.getD 3 undef)) ?atStart ?round
  case atStart =>
    have hlt := World.block_lt_of_cell? W ⟨B0, 0, none⟩ h0
    have hb : Below W.heap.size W ((W.alloc (.cells #[.func (.yield l) #[] #[]] 175)).alloc (.cells #[.int .i64 0] 3)) := by (repeat (first | (with_reducible exact Below.refl _ _) | (with_reducible refine Ext.drewN ?_ _) | (with_reducible refine Below.drew ?_) | (with_reducible refine Ext.alloc ?_ _) | (with_reducible refine Ext.setCell ?_ (by simp; try omega) _) | (with_reducible refine Ext.trans ?_ (by assumption)) | (with_reducible assumption) | exact Below.refl _ _))
    have hE0 : Hid (¬ Ex X N RectT ((W.alloc (.cells #[.func (.yield l) #[] #[]] 175)).alloc (.cells #[.int .i64 0] 3)) B0 ∧ ¬ Ex X N RectT ((W.alloc (.cells #[.func (.yield l) #[] #[]] 175)).alloc (.cells #[.int .i64 0] 3)) Br ∧ ¬ Ex X N RectT ((W.alloc (.cells #[.func (.yield l) #[] #[]] 175)).alloc (.cells #[.int .i64 0] 3)) 2) := Lib.hid ⟨Ex.not_eq x0 (hb.block B0 hlt), Ex.not_eq x1 (hb.block Br hG.lt), Ex.not_eq x2 (hb.block _ hD.size)⟩
    refine ⟨_, _, _, _, _, _, _, _, _, _, _, _, _, _, _, _, _, _, _, _, _, _, _, _, _, _, _, _, _, _, _, _, _, _, _, _, _, _, _, _, _, _, _, _, _, _, [], W.heap.size + 1, 0, 80, [], ?rel, rfl⟩
    case rel =>
      refine ⟨by (try simp only [World.size_alloc]); omega, by simp [go_sem], by simp [go_sem], by omega, by omega, hL0, hJ _ _ _ hJ0 (StepX.of_below (Nat.le_refl _) hb), by (simp only [World.size_alloc]; omega), by simp [go_sem], (hb.cell (p := ⟨B0, 0, none⟩) hlt).trans h0, hG.below hb hG.lt, hD.below hb hD.size, MarksOK.nil _ _, ?_, ?_, hE0⟩
      have hI0 := IntB.alloc (W.alloc (.cells #[.func (.yield l) #[] #[]] 175)) #[.int .i64 0]
      · rwa [World.size_alloc] at hI0
      · exact (NR.alloc W #[.func (.yield l) #[] #[]] 175 (by decide)).of_eq (Below.heap_alloc _ _ _ (by simp))
  case round =>
    clear hL0
    intro _ wr hinv
    obtain ⟨u4, u5, u6, u7, u8, u9, u10, u11, u12, u13, u14, u15, u16, u17, u18, u19, u20, u21, u22, u23, u24, u25, u26, u27, u28, u29, u30, u31, u32, u33, u35, u36, u37, u38, u39, u40, u41, u42, u43, u44, u45, u46, u47, u48, u49, u50, Ds, g, i, n, pre, ⟨hg, ci, fi, hi, hn, hLp, hJp, hsz, cy, c0, hGr, hDr, hMk, hIg, hNW, hEx⟩, ha⟩ := hinv
    subst ha
    try dsimp only
    by_cases hlt : i < 80
    case neg =>
      obtain rfl : i = 80 := by omega
      have hLe : L = pre := by rw [hLp, canonF_end f n _ (by omega), List.append_nil]
      subst hLe
      go_wp2_with fail
      rw [Exit.noGoto_normal]
      exact leaves_marks rfl Ds wr hMk (fun w' hb => ⟨⟨_, rfl⟩, .inl (hJ _ _ _ hJp hb)⟩)
    obtain ⟨y, hy⟩ : ∃ y : Int, y = (i : Int) - 40 := ⟨_, rfl⟩
    rw [← hy] at hLp
    obtain ⟨m, hm, hstep⟩ := canonF_step f n y (by omega) (by omega)
    have he1 := bandE_ge f y 80 (y + 1)
    have he2 := bandE_le f y 80 (y + 1) (by omega)
    obtain ⟨e, he⟩ : ∃ e, e = bandE f y 80 (y + 1) := ⟨_, rfl⟩
    rw [← he] at hm hstep he1 he2
    rw [hstep] at hLp
    have HE := Lib.hid he
    have HL := Lib.hid hLp
    have HY := Lib.hid hy
    have HCN := Lib.hid (cellN_eq ci)
    have q1 : (i : Int) < 80 := by omega
    have q0 : (0 : Int) ≤ (i : Int) := by omega
    have nz : ¬ wr.heap = #[] := hDr.ne
    have gl : g < wr.heap.size := World.block_lt_of_cell? wr ⟨g, 0, none⟩ ci
    have b0l : B0 < wr.heap.size := World.block_lt_of_cell? wr ⟨B0, 0, none⟩ c0
    have brl := hGr.lt
    have dbl := hDr.size
    clear hstep he hLp hy
    go_upto_block 2 with fail
    obtain ⟨wv, hwv⟩ : ∃ wv, wv = wr.alloc (.cells #[.int .i64 ((i : Int) + 1)] 3) := ⟨_, rfl⟩
    have kv : Below wr.heap.size wr wv := by rw [hwv]; (repeat (first | (with_reducible exact Below.refl _ _) | (with_reducible refine Ext.drewN ?_ _) | (with_reducible refine Below.drew ?_) | (with_reducible refine Ext.alloc ?_ _) | (with_reducible refine Ext.setCell ?_ (by simp; try omega) _) | (with_reducible refine Ext.trans ?_ (by assumption)) | (with_reducible assumption) | exact Below.refl _ _))
    have cv : wv.cell? ⟨wr.heap.size, 0, none⟩ = some (.int .i64 ((i + 1 : Nat) : Int)) := by rw [hwv]; simp [go_sem]
    have fv : wv.frozen? ⟨wr.heap.size, 0, none⟩ = false := by rw [hwv]; simp [go_sem]
    have sv : wv.heap.size = wr.heap.size + 1 := by rw [hwv]; simp
    have d8 := hMk.ext kv
    have d9 := d8.ne cv
    have D8 := Lib.hid d8
    clear hMk d8
    have hIh := IntB.alloc wr #[.int .i64 ((i : Int) + 1)]
    rw [← hwv] at hIh
    have hIg2 := hIg.of_eq (kv.block g gl)
    have HNW := Lib.hid (hNW.of_eq (kv.block W.heap.size hsz))
    have HEV : Hid (¬ Ex X N RectT wv B0 ∧ ¬ Ex X N RectT wv Br ∧ ¬ Ex X N RectT wv 2) := Lib.hid ⟨Ex.not_eq hEx.out.1 (kv.block B0 b0l), Ex.not_eq hEx.out.2.1 (kv.block Br brl), Ex.not_eq hEx.out.2.2 (kv.block _ dbl)⟩
    clear hNW hEx
    have st7 : StepX W.heap.size (fun t => t = 3) wr wv := StepX.of_below (by omega) kv
    obtain ⟨h, hh⟩ : ∃ h, h = wr.heap.size := ⟨_, rfl⟩
    rw [← hwv]
    rw [← hh] at d9
    have D9 := Lib.hid d9
    clear d9
    rw [← hh] at cv fv sv kv hIh ⊢
    have d1 := (kv.cell (p := ⟨g, 0, none⟩) (show g < h by omega)).trans ci
    have d2 := (kv.frozen (p := ⟨g, 0, none⟩) (show g < h by omega)).trans fi
    have d3 := (kv.cell (p := ⟨W.heap.size, 0, none⟩) (show W.heap.size < h by omega)).trans cy
    have d4 := (kv.cell (p := ⟨B0, 0, none⟩) (show B0 < h by omega)).trans c0
    have d5 := hGr.below kv (by omega)
    have d6 := hDr.below kv (by omega)
    have d7 := hJ _ _ _ hJp st7
    have HIh := Lib.hid hIh
    have HIg := Lib.hid hIg2
    clear hIh hIg2 st7 hIg
    have gh : g ≠ h := by omega
    have b0h : B0 ≠ h := by omega
    have brh : Br ≠ h := by omega
    have wh : W.heap.size ≠ h := by omega
    have dh : 2 ≠ h := by omega
    have D5 := Lib.hid d5
    have D6 := Lib.hid d6
    have HW := Lib.hid (show W.heap.size < h by omega)
    have HS := Lib.hid (And.intro hsz (And.intro gl (And.intro b0l (And.intro brl dbl))))
    clear hwv kv d5 d6 hGr hDr ci fi cy c0 hJp nz hh hsz gl b0l brl dbl
    go_cut [10] from 5 to 33 (fun _ wx => ∃ t : Nat, i < t ∧ t ≤ 80 ∧ Hid (e = (t : Int) - 40) ∧ wx.cell? ⟨h, 0, none⟩ = some (.int .i64 (t : Int)) ∧ wx.frozen? ⟨h, 0, none⟩ = false ∧ Kept (fun k => k = h) wv wx ∧ Hid (IntB h wx))
    case first =>
      go_wp2_with fail
      go_loopw [10] (fun _ wr => ∃ t nb : Nat, i < t ∧ t ≤ 80 ∧ 80 - t ≤ nb ∧ Hid (e = bandE f y nb ((t : Int) - 40)) ∧ wr.cell? ⟨h, 0, none⟩ = some (.int .i64 (t : Int)) ∧ wr.frozen? ⟨h, 0, none⟩ = false ∧ Kept (fun k => k = h) wv wr ∧ Hid (IntB h wr)) (fun _ wr => 80 - cellN wr (.pointer (some ⟨h, 0, none⟩)))
      case atStart =>
        refine ⟨i + 1, 80, by omega, by omega, by omega, ?_, cv, fv, Kept.refl _ _, HIh⟩
        have := HE.out
        rw [HY.out] at this ⊢
        unfold Hid
        rw [this, show ((i + 1 : Nat) : Int) - 40 = (i : Int) - 40 + 1 by omega]
      case round =>
        obtain ⟨t, nb, ht1, ht2, hnb, HT, ct, ft, hk, HIt⟩ := hrel
        have e1 := (hk.cell (p := ⟨g, 0, none⟩) (World.block_lt_of_cell? wv ⟨g, 0, none⟩ d1) gh).trans d1
        have e3 := (hk.cell (p := ⟨W.heap.size, 0, none⟩) (World.block_lt_of_cell? wv ⟨W.heap.size, 0, none⟩ d3) wh).trans d3
        have e4 := (hk.cell (p := ⟨B0, 0, none⟩) (World.block_lt_of_cell? wv ⟨B0, 0, none⟩ d4) b0h).trans d4
        have e5 := D5.out.kept hk brh
        have r0 := e5.cell (j := i * 2) (by omega)
        have r1 := e5.cell (j := i * 2 + 1) (by omega)
        have E5 := Lib.hid e5
        have p0 : (0 : Int) ≤ (t : Int) := by omega
        have hcN := cellN_eq ct
        clear e5
        by_cases ht : t < 80
        · have p1 : (t : Int) < 80 := by omega
          have s0 := E5.out.cell (j := t * 2) (by omega)
          have s1 := E5.out.cell (j := t * 2 + 1) (by omega)
          have hrq := rows_eq HF.out hlt ht
          rw [← HY.out] at hrq
          by_cases hr : runsL f ((t : Int) - 40) = runsL f y
          · obtain ⟨g1, g2⟩ := hrq.2 hr
            rw [g1] at s0
            rw [g2] at s1
            have heq := eqCol (G (i * 2) : Int) (G (i * 2 + 1) : Int) (G (i * 2) : Int) (G (i * 2 + 1) : Int)
            simp only [BEq.rfl, Bool.and_self] at heq
            have HR := Lib.hid hr
            clear hr hrq g1 g2
            go_wp2_with fail
            go_region
            all_goals go_wp2_with fail
            go_roundw
            case rel =>
              obtain ⟨nb', n1, n2⟩ := bandE_step f y nb ((t : Int) - 40) (by omega) HR.out (by omega)
              refine ⟨t + 1, nb', by omega, by omega, by omega, ?_, ?_, by simpa [go_sem] using ft, (hk.setCell (X := fun k => k = h) (p := ⟨h, 0, none⟩) rfl _).drew, Lib.hid (HIt.out.setCell _ _)⟩
              · unfold Hid
                rw [show ((t + 1 : Nat) : Int) - 40 = (t : Int) - 40 + 1 by omega]
                exact HT.out.trans n2
              · rw [show ((t + 1 : Nat) : Int) = (t : Int) + 1 by omega]
                exact World.cell?_setCell_same _ _ _ ct
            case measure =>
              have h9 : (wr.setCell ⟨h, 0, none⟩ (.int .i64 ((t : Int) + 1))).drew.cell? ⟨h, 0, none⟩ = some (.int .i64 ((t + 1 : Nat) : Int)) := by
                rw [show ((t + 1 : Nat) : Int) = (t : Int) + 1 by omega]
                exact World.cell?_setCell_same _ _ _ ct
              rw [cellN_eq h9, hcN]
              omega
          · have hne : ((G (t * 2) : Int) == (G (i * 2) : Int) && (G (t * 2 + 1) : Int) == (G (i * 2 + 1) : Int)) = false := by
              rw [Bool.eq_false_iff]
              intro h9
              simp only [Bool.and_eq_true, beq_iff_eq] at h9
              exact hr (hrq.1 ⟨by omega, by omega⟩)
            have heq := eqCol (G (t * 2) : Int) (G (t * 2 + 1) : Int) (G (i * 2) : Int) (G (i * 2 + 1) : Int)
            rw [hne] at heq
            have HR := Lib.hid hr
            clear hr hrq hne
            go_wp2_with fail
            go_region
            all_goals go_wp2_with fail
            go_meet
            refine ⟨t, ht1, ht2, ?_, ct, ft, hk.drew, HIt⟩
            exact HT.out.trans (bandE_stop f y nb _ (fun h9 => HR.out h9.2))
        · obtain rfl : t = 80 := by omega
          have p1 : ((80 : Nat) : Int) = 80 := rfl
          rw [p1] at ct
          go_wp2_with fail
          go_region
          all_goals go_wp2_with fail
          go_meet
          refine ⟨80, ht1, ht2, ?_, ct, ft, hk.drew, HIt⟩
          exact HT.out.trans (bandE_stop f y nb _ (fun h9 => by omega))
    case rest =>
      obtain ⟨t, ht1, ht2, HT, ct, ft, hk, HIt⟩ := hcut
      rename World => wk
      have e1 := (hk.cell (p := ⟨g, 0, none⟩) (World.block_lt_of_cell? wv ⟨g, 0, none⟩ d1) gh).trans d1
      have ef := (hk.frozen (p := ⟨g, 0, none⟩) (World.block_lt_of_cell? wv ⟨g, 0, none⟩ d1) gh).trans d2
      have e3 := (hk.cell (p := ⟨W.heap.size, 0, none⟩) (World.block_lt_of_cell? wv ⟨W.heap.size, 0, none⟩ d3) wh).trans d3
      have e4 := (hk.cell (p := ⟨B0, 0, none⟩) (World.block_lt_of_cell? wv ⟨B0, 0, none⟩ d4) b0h).trans d4
      have e5 := D5.out.kept hk brh
      have e6 := D6.out.kept hk dh
      have e7 := hJ _ _ _ d7 (StepX.of_kept hk (by have := HW.out; omega) (fun k e => by have := HW.out; omega) (fun k e => by subst e; exact HIh.out))
      have HIk := Lib.hid (HIg.out.of_eq (hk.block g (World.block_lt_of_cell? wv ⟨g, 0, none⟩ d1) gh))
      have HNk := Lib.hid (HNW.out.of_eq (hk.block W.heap.size (World.block_lt_of_cell? wv ⟨W.heap.size, 0, none⟩ d3) wh))
      have HEk : Hid (¬ Ex X N RectT wk B0 ∧ ¬ Ex X N RectT wk Br ∧ ¬ Ex X N RectT wk 2) := Lib.hid ⟨Ex.not_eq HEV.out.1 (hk.block B0 (World.block_lt_of_cell? wv ⟨B0, 0, none⟩ d4) b0h), Ex.not_eq HEV.out.2.1 (hk.block Br D5.out.lt brh), Ex.not_eq HEV.out.2.2 (hk.block _ D6.out.size dh)⟩
      have r0 := e5.cell (j := i * 2) (by omega)
      have r1 := e5.cell (j := i * 2 + 1) (by omega)
      have hruns := fun w' (hw : DebW w') => runs_any (G (i * 2)) (G (i * 2 + 1)) w' (HF.out.word _) (HF.out.high i hlt) hw f y (fun c hc => by rw [HY.out]; exact HF.out.bits i hlt c hc)
      have hev := runsL_even f y
      have hrl := runsL_len f y
      obtain ⟨rl, hrl0⟩ : ∃ rl, rl = runsL f y := ⟨_, rfl⟩
      have E8 := Lib.hid (D8.out.kept (X := fun k => k = h) hk D9.out)
      have E9 := Lib.hid (D8.out.ne d1)
      have HE5 := Lib.hid e5
      have HE6 := Lib.hid e6
      have szw := hk.size
      clear e5 e6 hk d1 d2 d3 d4
      go_upto_region 6 with fail
      go_cut [33] from 5 to 33 (fun s33 wx => ∃ hb cb A0 : Nat, s33 = .func (.func 170) #[] #[.pointer (some ⟨A0, 0, none⟩), .pointer (some ⟨A0 + 1, 0, none⟩)] ∧ wx.cell? ⟨A0, 0, none⟩ = some (.slice (some ⟨hb, 0, none⟩) (runsL f y).length cb) ∧ wx.cell? ⟨A0 + 1, 0, none⟩ = some (.int .i64 2) ∧ wk.heap.size ≤ hb ∧ wk.heap.size ≤ A0 ∧ hb < wx.heap.size ∧ (∀ k x, (runsL f y)[k]? = some x → wx.cell? ⟨hb, k, none⟩ = some (.int .i64 x)) ∧ (runsL f y).length ≤ cb ∧ Below wk.heap.size wk wx ∧ Hid (NR hb wx ∧ NR A0 wx ∧ NR (A0 + 1) wx))
      case first =>
        refine wp_region_noPanic ?_
        go_region_with (first | (go_at_call 154; refine (hruns _ ?_).mono ?_; exact HE6.out; rintro e v0 ⟨⟨hb, cb, rfl, hI, hcap⟩, bv0⟩) | (go_at_call 153; refine (chunk_any _ _ _ _).mono ?_; rintro e v1 ⟨rfl, hv1⟩; subst hv1))
        all_goals
          refine NoPanic.normal ?_
          go_wp2_with fail
          go_meet
          refine ⟨hb, cb, _, rfl, ?_, ?_, hI.1, ?_, ?_, ?_, hcap, ?_, Lib.hid ⟨?_, ?_, ?_⟩⟩
          · simp [go_sem]
          · simp [go_sem]
          · have := bv0.size; (try simp only [World.size_alloc, World.size_drew] at this ⊢); omega
          · have := hI.lt; (try simp only [World.size_alloc, World.size_drew] at this ⊢); omega
          · intro k x hkx
            have h9 := hI.2.2 k x hkx
            have l9 := hI.lt
            simp [go_sem, h9, l9, Nat.lt_succ_of_lt l9]
          · (repeat (first | (with_reducible exact Below.refl _ _) | (with_reducible refine Ext.drewN ?_ _) | (with_reducible refine Below.drew ?_) | (with_reducible refine Ext.alloc ?_ _) | (with_reducible refine Ext.setCell ?_ (by simp; try omega) _) | (with_reducible refine Ext.trans ?_ (by assumption)) | (with_reducible assumption) | exact Below.refl _ _))
          · obtain ⟨cur, hcur⟩ := hI.2.1
            refine NR.of_eq (w := v0) (fun cs t h9 => by rw [hcur] at h9; cases h9; decide) (Below.block (B := v0.heap.size) ?_ hb hI.lt)
            (repeat (first | (with_reducible exact Below.refl _ _) | (with_reducible refine Ext.drewN ?_ _) | (with_reducible refine Below.drew ?_) | (with_reducible refine Ext.alloc ?_ _) | (with_reducible refine Ext.setCell ?_ (by simp; try omega) _) | (with_reducible refine Ext.trans ?_ (by assumption)) | (with_reducible assumption) | exact Below.refl _ _))
          · exact (NR.alloc _ _ _ (by decide)).of_eq (Below.heap_alloc _ _ _ (by simp))
          · have h9 := NR.alloc (v0.alloc (.cells #[.slice (some ⟨hb, 0, none⟩) (runsL f y).length cb] 29)) #[.int .i64 2] 3 (by decide)
            rw [World.size_alloc] at h9
            exact h9
      case rest =>
        obtain ⟨hb, cb, A0, rfl, a0, a1, b0, b1, b2, hI, hcap, hbw, HN3⟩ := hcut
        rename World => wq
        have hWq : W.heap.size < wq.heap.size := by have := HW.out; have := hbw.size; omega
        have f1 := (hbw.cell (p := ⟨g, 0, none⟩) (World.block_lt_of_cell? wk ⟨g, 0, none⟩ e1)).trans e1
        have ff := (hbw.frozen (p := ⟨g, 0, none⟩) (World.block_lt_of_cell? wk ⟨g, 0, none⟩ e1)).trans ef
        have f2 := (hbw.cell (p := ⟨h, 0, none⟩) (World.block_lt_of_cell? wk ⟨h, 0, none⟩ ct)).trans ct
        have f3 := (hbw.cell (p := ⟨W.heap.size, 0, none⟩) (World.block_lt_of_cell? wk ⟨W.heap.size, 0, none⟩ e3)).trans e3
        have f4 := (hbw.cell (p := ⟨B0, 0, none⟩) (World.block_lt_of_cell? wk ⟨B0, 0, none⟩ e4)).trans e4
        have f5 := HE5.out.ext hbw
        have f6 := HE6.out.ext hbw
        have f7 := hJ _ _ _ e7 (StepX.of_below (by have := HW.out; omega) hbw)
        have HIq := Lib.hid (HIk.out.of_eq (hbw.block g (World.block_lt_of_cell? wk ⟨g, 0, none⟩ e1)))
        have f8 := E8.out.ext hbw
        have nX0 : ∀ k, W.heap.size ≤ k → ¬ X k := fun k hk' hx => by have := hX k hx; omega
        have nX : ∀ k, W.heap.size ≤ k → NR k wq → ¬ Ex X N RectT wq k := fun k hk' h9 => Ex.not_type (nX0 k hk') h9
        have HIW := Lib.hid (HNk.out.of_eq (hbw.block W.heap.size (World.block_lt_of_cell? wk ⟨W.heap.size, 0, none⟩ e3)))
        have HIT := Lib.hid (HIt.out.of_eq (hbw.block h (World.block_lt_of_cell? wk ⟨h, 0, none⟩ ct)))
        have HEq : Hid (¬ Ex X N RectT wq B0 ∧ ¬ Ex X N RectT wq Br ∧ ¬ Ex X N RectT wq 2) := Lib.hid ⟨Ex.not_eq HEk.out.1 (hbw.block B0 (World.block_lt_of_cell? wk ⟨B0, 0, none⟩ e4)), Ex.not_eq HEk.out.2.1 (hbw.block Br HE5.out.lt), Ex.not_eq HEk.out.2.2 (hbw.block _ HE6.out.size)⟩
        have hbW : W.heap.size ≤ hb := by have := HW.out; omega
        have hAW : W.heap.size ≤ A0 := by have := HW.out; omega
        have hA0 : A0 + 1 < wq.heap.size := World.block_lt_of_cell? wq ⟨A0 + 1, 0, none⟩ a1
        have hM2 : (runsL f y).length = (runsL f y).length / 2 * 2 := by omega
        have hpl := pairsR_len y e (runsL f y)
        obtain ⟨M, hM⟩ : ∃ M, M = (runsL f y).length / 2 := ⟨_, rfl⟩
        rw [← hM] at hM2 hpl
        have F5 := Lib.hid f5
        have F6 := Lib.hid f6
        have F8 := Lib.hid f8
        clear f5 f6 f8 e1 ef e3 e4 e7 ct ft hbw
        go_wp2_with fail
        refine rangeU1 (gf := 170) rfl (enters_of Tryd.func170 (by kernel_rfl) rfl) (encs := fun q : Nat => #[pairV hb q]) (L := List.range M) X (fun k hk' => by have := hX k hk'; omega) N RectT (fun _ => False) ?hseq (fun _ => rfl)
          (fun ps V => ∃ q : Nat, ps = List.range q ∧ q ≤ M ∧ J (pre ++ (pairsR y e (runsL f y)).take q) V ∧ Kept (Ex X N RectT wq) wq V)
          (fun c ps V => c = .exit 0 ∧ ∃ p', p' <+: L ∧ Jx p' V ∧ Kept (Ex X N RectT wq) wq V)
          (fun s A B hs hb' => by obtain ⟨q, u1, u2, u3, u4⟩ := hs; exact ⟨q, u1, u2, hJ _ _ _ u3 (hb'.mono (by omega) (fun _ h9 => h9.elim)), u4.far hb'.below⟩)
          (fun c s A B hs hb' => by obtain ⟨u1, p', u2, u3, u4⟩ := hs; exact ⟨u1, p', u2, hJx _ _ _ u3 (hb'.mono (by omega) (fun _ h9 => h9.elim)), u4.far hb'.below⟩)
          ⟨0, rfl, by omega, by rw [List.take_zero, List.append_nil]; exact f7, Kept.refl _ _⟩
          (fun T q => (T.setIfInBounds 34 (pairV hb q)).setIfInBounds 5 (pairV hb q)) ?assign ?body ?done ?stop
        case hseq =>
          intro V hV hVs
          have ex' : ∀ k, wq.heap.size = wq.heap.size → A0 ≤ k → k ≤ A0 + 1 → NR k wq → ¬ Ex (fun k => X k ∨ k = wq.heap.size ∨ k = wq.heap.size + 1) N RectT V k := fun k _ h8 h8' h9 => by
            refine Ex.not_type ?_ (h9.of_eq (hV.block k (by omega)))
            rintro (h7 | h7 | h7)
            · exact nX0 k (by omega) h7
            · omega
            · omega
          exact chunk_seqU _ N RectT A0 (A0 + 1) hb M (runsL f y).length cb V hM2 ((hV.cell (p := ⟨A0, 0, none⟩) (show A0 < wq.heap.size by omega)).trans a0) ((hV.cell (p := ⟨A0 + 1, 0, none⟩) hA0).trans a1) (ex' A0 rfl (by omega) (by omega) HN3.out.2.1) (ex' (A0 + 1) rfl (by omega) (by omega) HN3.out.2.2) (by omega) hcap
        case assign =>
          intro l2 q V K hK
          gi_wp2
          exact hK
        case body =>
          rintro l2 ps q post V hps hVs ⟨q', rfl, hq', hJV, hKV⟩
          obtain ⟨-, m2, m3⟩ := range_mid hps
          rw [List.length_range] at m2 m3
          subst m2
          have hr := pairsR_get y e (runsL f y) q (by omega)
          have ha : (runsL f y)[q * 2]? = some ((runsL f y).getD (2 * q) 0) := by rw [Nat.mul_comm q 2, List.getD, List.getElem?_eq_getElem (by omega)]; rfl
          have hb2 : (runsL f y)[q * 2 + 1]? = some ((runsL f y).getD (2 * q + 1) 0) := by rw [Nat.mul_comm q 2, List.getD, List.getElem?_eq_getElem (by omega)]; rfl
          have nhb := nX _ hbW HN3.out.1
          have ng := nX g (by omega) HIq.out.nr
          have nh := nX h (by have := HW.out; omega) HIT.out.nr
          have nW := nX _ (Nat.le_refl _) HIW.out
          have g1 := (hKV.cell (p := ⟨hb, q * 2, none⟩) b2 nhb).trans (hI _ _ ha)
          have g2 := (hKV.cell (p := ⟨hb, q * 2 + 1, none⟩) b2 nhb).trans (hI _ _ hb2)
          have g3 := (hKV.cell (p := ⟨g, 0, none⟩) (World.block_lt_of_cell? wq ⟨g, 0, none⟩ f1) ng).trans f1
          have g4 := (hKV.cell (p := ⟨h, 0, none⟩) (World.block_lt_of_cell? wq ⟨h, 0, none⟩ f2) nh).trans f2
          have g5 := (hKV.cell (p := ⟨W.heap.size, 0, none⟩) hWq nW).trans f3
          have mhb := Ex.step hKV b2 nhb
          have mg := Ex.step hKV (World.block_lt_of_cell? wq ⟨g, 0, none⟩ f1) ng
          have mh := Ex.step hKV (World.block_lt_of_cell? wq ⟨h, 0, none⟩ f2) nh
          have mW := Ex.step hKV hWq nW
          revert hr g1 g2
          generalize (runsL f y).getD (2 * q) 0 = xa
          generalize (runsL f y).getD (2 * q + 1) 0 = xb
          intro hr g1 g2
          have hLq : L = (pre ++ (pairsR y e (runsL f y)).take q) ++ (R4.mk xa y xb e) :: ((pairsR y e (runsL f y)).drop (q + 1) ++ canonF f m e) := by
            have := HL.out
            rw [getD_some hr] at this
            rw [this]
            simp only [List.append_assoc, List.cons_append]
          have htk : (pairsR y e (runsL f y)).take (q + 1) = (pairsR y e (runsL f y)).take q ++ [R4.mk xa y xb e] := by rw [List.take_add_one, hr]; rfl
          have hyy : y = (i : Int) - 40 := HY.out
          have hee : e = (t : Int) - 40 := HT
          obtain ⟨fn, tmps, assign, body, hy, hR⟩ := (hY _ _ _ V.drew hLq (hJ _ _ _ hJV (StepX.drew _)) (show W.heap.size ≤ V.heap.size by omega)).inRound l2 8
          dsimp only at hy
          rw [hyy, hee] at hy
          have hR2 := hR.mono (R' := fun e9 W9 => ∃ bo : Bool, e9 = .returned (.bool bo) ∧ Hid ((bo = true ∧ J (pre ++ (pairsR y e (runsL f y)).take (q + 1)) W9 ∧ Kept (Ex X N RectT wq) wq W9) ∨ (bo = false ∧ (∃ p', p' <+: L ∧ Jx p' W9 ∧ Kept (Ex X N RectT wq) wq W9))) ∧ Kept (Ex X N RectT V) V W9) (by
            rintro e9 W9 (⟨rfl, k1, k2⟩ | ⟨rfl, k1, k2⟩)
            · exact ⟨true, rfl, .inl ⟨rfl, by rw [htk, ← List.append_assoc]; exact k1, hKV.drew.transU k2 (fun k h9 => h9) (fun k h9 => h9)⟩, (Kept.refl (Ex X N RectT V) V).drew.trans k2⟩
            · exact ⟨false, rfl, .inr ⟨rfl, _, ⟨_, by rw [hLq]; simp only [List.append_assoc, List.cons_append, List.nil_append]; rfl⟩, k1, hKV.drew.transU k2 (fun k h9 => h9) (fun k h9 => h9)⟩, (Kept.refl (Ex X N RectT V) V).drew.trans k2⟩)
          have hmix : Tryd.prog.follows .mixedOrders = true := by kernel_rfl
          have hw1 : IntKind.i64.wrap ((i : Int) - 40) = (i : Int) - 40 := by rw [IntKind.wrap_i64]; omega
          have hw2 : IntKind.i64.wrap ((t : Int) - 40) = (t : Int) - 40 := by rw [IntKind.wrap_i64]; omega
          have hpv : pairV hb q = .slice (some ⟨hb, q * 2, none⟩) 2 2 := rfl
          rw [hpv]
          clear hR hLq htk hr ha hb2 hyy hee
          dsimp only
          gi_wp2
          have k1 : ∀ w', Kept (Ex X N RectT V) V w' → w'.cell? ⟨hb, q * 2, none⟩ = some (.int .i64 xa) := fun w' h9 => (h9.cell (p := ⟨hb, q * 2, none⟩) (World.block_lt_of_cell? V ⟨hb, q * 2, none⟩ g1) mhb).trans g1
          have k2 : ∀ w', Kept (Ex X N RectT V) V w' → w'.cell? ⟨hb, q * 2 + 1, none⟩ = some (.int .i64 xb) := fun w' h9 => (h9.cell (p := ⟨hb, q * 2 + 1, none⟩) (World.block_lt_of_cell? V ⟨hb, q * 2 + 1, none⟩ g2) mhb).trans g2
          have k3 : ∀ w', Kept (Ex X N RectT V) V w' → w'.cell? ⟨g, 0, none⟩ = some (.int .i64 (i : Int)) := fun w' h9 => (h9.cell (p := ⟨g, 0, none⟩) (World.block_lt_of_cell? V ⟨g, 0, none⟩ g3) mg).trans g3
          have k4 : ∀ w', Kept (Ex X N RectT V) V w' → w'.cell? ⟨h, 0, none⟩ = some (.int .i64 (t : Int)) := fun w' h9 => (h9.cell (p := ⟨h, 0, none⟩) (World.block_lt_of_cell? V ⟨h, 0, none⟩ g4) mh).trans g4
          have k5 : ∀ w', Kept (Ex X N RectT V) V w' → w'.cell? ⟨W.heap.size, 0, none⟩ = some (.func (.yield l) #[] #[]) := fun w' h9 => (h9.cell (p := ⟨W.heap.size, 0, none⟩) (World.block_lt_of_cell? V ⟨W.heap.size, 0, none⟩ g5) mW).trans g5
          have hS : Kept (Ex X N RectT V) V V.drew := (Kept.refl (Ex X N RectT V) V).drew
          refine regionR (S := fun w' => Kept (Ex X N RectT V) V w') hmix ?_
          refine takeR (i := 0) (.func (.yield l) #[] #[]) rfl (by kernel_rfl) (by kernel_rfl) (by kernel_rfl) (by kernel_rfl) (fun _ _ _ h => h) (by rfl) ?_ (fun _ => rfl) hS ?_
          · intro w' h9
            simp [go_sem, k1 w' h9, k2 w' h9, k3 w' h9, k4 w' h9, k5 w' h9, hw1, hw2, Act.put]
          simp only [go_sem, Act.put]
          refine takeR (i := 1) (.slice (some ⟨hb, q * 2, none⟩) 2 2) rfl (by kernel_rfl) (by kernel_rfl) (by kernel_rfl) (by kernel_rfl) (fun _ _ _ h => h) (by rfl) ?_ (fun _ => rfl) hS ?_
          · intro w' h9
            simp [go_sem, k1 w' h9, k2 w' h9, k3 w' h9, k4 w' h9, k5 w' h9, hw1, hw2, Act.put]
          simp only [go_sem, Act.put]
          refine takeR (i := 2) (.pointer (some ⟨hb, q * 2, none⟩)) rfl (by kernel_rfl) (by kernel_rfl) (by kernel_rfl) (by kernel_rfl) (fun _ _ _ h => h) (by rfl) ?_ (fun _ => rfl) hS ?_
          · intro w' h9
            simp [go_sem, k1 w' h9, k2 w' h9, k3 w' h9, k4 w' h9, k5 w' h9, hw1, hw2, Act.put]
          simp only [go_sem, Act.put]
          refine takeR (i := 3) (.int .i64 xa) rfl (by kernel_rfl) (by kernel_rfl) (by kernel_rfl) (by kernel_rfl) (fun _ _ _ h => h) (by rfl) ?_ (fun _ => rfl) hS ?_
          · intro w' h9
            simp [go_sem, k1 w' h9, k2 w' h9, k3 w' h9, k4 w' h9, k5 w' h9, hw1, hw2, Act.put]
          simp only [go_sem, Act.put]
          refine takeR (i := 4) (.int .i64 (i : Int)) rfl (by kernel_rfl) (by kernel_rfl) (by kernel_rfl) (by kernel_rfl) (fun _ _ _ h => h) (by rfl) ?_ (fun _ => rfl) hS ?_
          · intro w' h9
            simp [go_sem, k1 w' h9, k2 w' h9, k3 w' h9, k4 w' h9, k5 w' h9, hw1, hw2, Act.put]
          simp only [go_sem, Act.put]
          refine takeR (i := 5) (.int .i64 ((i : Int) - 40)) rfl (by kernel_rfl) (by kernel_rfl) (by kernel_rfl) (by kernel_rfl) (fun _ _ _ h => h) (by rfl) ?_ (fun _ => rfl) hS ?_
          · intro w' h9
            simp [go_sem, k1 w' h9, k2 w' h9, k3 w' h9, k4 w' h9, k5 w' h9, hw1, hw2, Act.put]
          simp only [go_sem, Act.put]
          refine takeR (i := 6) (.slice (some ⟨hb, q * 2, none⟩) 2 2) rfl (by kernel_rfl) (by kernel_rfl) (by kernel_rfl) (by kernel_rfl) (fun _ _ _ h => h) (by rfl) ?_ (fun _ => rfl) hS ?_
          · intro w' h9
            simp [go_sem, k1 w' h9, k2 w' h9, k3 w' h9, k4 w' h9, k5 w' h9, hw1, hw2, Act.put]
          simp only [go_sem, Act.put]
          refine takeR (i := 7) (.pointer (some ⟨hb, q * 2 + 1, none⟩)) rfl (by kernel_rfl) (by kernel_rfl) (by kernel_rfl) (by kernel_rfl) (fun _ _ _ h => h) (by rfl) ?_ (fun _ => rfl) hS ?_
          · intro w' h9
            simp [go_sem, k1 w' h9, k2 w' h9, k3 w' h9, k4 w' h9, k5 w' h9, hw1, hw2, Act.put]
          simp only [go_sem, Act.put]
          refine takeR (i := 8) (.int .i64 xb) rfl (by kernel_rfl) (by kernel_rfl) (by kernel_rfl) (by kernel_rfl) (fun _ _ _ h => h) (by rfl) ?_ (fun _ => rfl) hS ?_
          · intro w' h9
            simp [go_sem, k1 w' h9, k2 w' h9, k3 w' h9, k4 w' h9, k5 w' h9, hw1, hw2, Act.put]
          simp only [go_sem, Act.put]
          refine takeR (i := 9) (.int .i64 (t : Int)) rfl (by kernel_rfl) (by kernel_rfl) (by kernel_rfl) (by kernel_rfl) (fun _ _ _ h => h) (by rfl) ?_ (fun _ => rfl) hS ?_
          · intro w' h9
            simp [go_sem, k1 w' h9, k2 w' h9, k3 w' h9, k4 w' h9, k5 w' h9, hw1, hw2, Act.put]
          simp only [go_sem, Act.put]
          refine takeR (i := 10) (.int .i64 ((t : Int) - 40)) rfl (by kernel_rfl) (by kernel_rfl) (by kernel_rfl) (by kernel_rfl) (fun _ _ _ h => h) (by rfl) ?_ (fun _ => rfl) hS ?_
          · intro w' h9
            simp [go_sem, k1 w' h9, k2 w' h9, k3 w' h9, k4 w' h9, k5 w' h9, hw1, hw2, Act.put]
          simp only [go_sem, Act.put]
          refine takeR (i := 11) (.agg #[.int .i64 xa, .int .i64 ((i : Int) - 40), .int .i64 xb, .int .i64 ((t : Int) - 40)]) rfl (by kernel_rfl) (by kernel_rfl) (by kernel_rfl) (by kernel_rfl) (fun _ _ _ h => h) (by rfl) ?_ (fun _ => rfl) hS ?_
          · intro w' h9
            simp [go_sem, k1 w' h9, k2 w' h9, k3 w' h9, k4 w' h9, k5 w' h9, hw1, hw2, Act.put]
          simp only [go_sem, Act.put]
          refine oneR (i := 12) (by kernel_rfl) (wpOpIn_step rfl fun K' hK' => ?_)
          rw [if_pos (by rfl)]
          refine ⟨fun _ _ => trivial, ?_⟩
          simp only [go_sem, Act.put]
          simp [go_sem, hy]
          refine hR2.mono ?_
          rintro e9 W9 ⟨bo, rfl, hbo, hkb⟩
          dsimp only
          refine hK' _ _ ⟨hkb, ?_⟩
          refine takeR (i := 13) (.bool (!bo)) rfl (by kernel_rfl) (by kernel_rfl) (by kernel_rfl) (by kernel_rfl) (fun _ _ _ h => h) (by rfl) ?_ (fun _ => rfl) hkb ?_
          · intro w' h9
            simp [go_sem, Act.put]
          simp only [go_sem, Act.put]
          refine doneR (by kernel_rfl) ?_ _
          clear k1 k2 k3 k4 k5 hK' hy hR2 hM hM2 hpl hev hrl
          rcases hbo.out with ⟨rfl, c1, c2⟩ | ⟨rfl, p', c1, c2, c3⟩
          · gi_wp2
            exact ⟨hkb, q + 1, by rw [List.range_succ], m3, c1, c2⟩
          · gi_wp2
            exact ⟨hkb, rfl, p', c1, c2, c3⟩
        case done =>
          rintro D V hDq ⟨q, hq, hqM, hJV, hKV⟩ hDV
          obtain rfl : M = q := by have := congrArg List.length hq; simpa using this
          rw [List.take_of_length_le (by omega)] at hJV
          have ng := nX g (by omega) HIq.out.nr
          have nh := nX h (by have := HW.out; omega) HIT.out.nr
          have nW := nX _ (Nat.le_refl _) HIW.out
          have nM : ∀ D', D' ∈ Ds → ¬ Ex X N RectT wq D' := fun D' hD' => nX D' (F8.out.ge D' hD') (fun cs t h9 => by rw [F8.out.obj D' hD'] at h9; cases h9)
          have g1 := (hKV.cell (p := ⟨g, 0, none⟩) (World.block_lt_of_cell? wq ⟨g, 0, none⟩ f1) ng).trans f1
          have gf := (hKV.frozen (p := ⟨g, 0, none⟩) (World.block_lt_of_cell? wq ⟨g, 0, none⟩ f1) ng).trans ff
          have g2 := (hKV.cell (p := ⟨h, 0, none⟩) (World.block_lt_of_cell? wq ⟨h, 0, none⟩ f2) nh).trans f2
          have gV := World.block_lt_of_cell? V ⟨g, 0, none⟩ g1
          have sV := hKV.size
          have hB0 : B0 < W.heap.size := World.block_lt_of_cell? W ⟨B0, 0, none⟩ h0
          have hBr := hG.lt
          have hDb := hD.size
          dsimp only
          have vD : D < V.heap.size := (Array.getElem?_eq_some_iff.1 hDV).1
          have hDg : D ≠ g := fun h9 => by
            rw [h9] at hDV
            simp [World.cell?, hDV] at g1
          have hBV : Below W.heap.size V ((V.setCell ⟨g, 0, none⟩ (.int .i64 (t : Int))).alloc (.cells #[.int .i64 (t : Int)] 3)) := ((Below.refl _ V).setCell (p := ⟨g, 0, none⟩) (show W.heap.size ≤ g by omega) _).alloc (by simp only [World.size_setCell]; omega) _
          have hIV := HIq.out.of_eq (hKV.block g (World.block_lt_of_cell? wq ⟨g, 0, none⟩ f1) ng)
          have hSV : StepX W.heap.size (fun t => t = 3) V ((V.setCell ⟨g, 0, none⟩ (.int .i64 (t : Int))).alloc (.cells #[.int .i64 (t : Int)] 3)) := (StepX.setCell ⟨g, 0, none⟩ _ (show W.heap.size ≤ g by omega) hIV).trans (StepX.of_below (by rw [World.size_setCell]; omega) ((Below.refl _ _).alloc (Nat.le_refl _) _))
          have hIn := IntB.alloc (V.setCell ⟨g, 0, none⟩ (.int .i64 (t : Int))) #[.int .i64 (t : Int)]
          rw [World.size_setCell] at hIn
          have kV2 : Kept (fun k => Ex X N RectT wq k ∨ k = g) wq ((V.setCell ⟨g, 0, none⟩ (.int .i64 (t : Int))).alloc (.cells #[.int .i64 (t : Int)] 3)) := ((hKV.mono (fun k _ hk' => .inl hk')).setCell (X := fun k => Ex X N RectT wq k ∨ k = g) (p := ⟨g, 0, none⟩) (.inr rfl) _).alloc _
          have hDV2 : ((V.setCell ⟨g, 0, none⟩ (.int .i64 (t : Int))).alloc (.cells #[.int .i64 (t : Int)] 3)).heap[D]? = some (.deferred (some [])) := by
            rw [Below.heap_alloc _ _ _ (by rw [World.size_setCell]; exact vD), Below.heap_setCell _ _ _ _ hDg]
            exact hDV
          have nX2 : ∀ k, ¬ Ex X N RectT wq k → k ≠ g → ¬ (Ex X N RectT wq k ∨ k = g) := fun k h8 h9 h7 => h7.elim h8 h9
          have hM9 := ((F8.out.kept kV2 (fun D' hD' => nX2 D' (nM D' hD') (F8.out.ne f1 D' hD'))).cons hDV2 (by omega) (fun h9 => by have := F8.out.lt h9; omega))
          have hT9 : e = (t : Int) - 40 := HT
          have hE9 : Hid (¬ Ex X N RectT ((V.setCell ⟨g, 0, none⟩ (.int .i64 (t : Int))).alloc (.cells #[.int .i64 (t : Int)] 3)) B0 ∧ ¬ Ex X N RectT ((V.setCell ⟨g, 0, none⟩ (.int .i64 (t : Int))).alloc (.cells #[.int .i64 (t : Int)] 3)) Br ∧ ¬ Ex X N RectT ((V.setCell ⟨g, 0, none⟩ (.int .i64 (t : Int))).alloc (.cells #[.int .i64 (t : Int)] 3)) 2) := Lib.hid ⟨Ex.not_eq HEq.out.1 (kV2.block B0 (show B0 < wq.heap.size by omega) (nX2 B0 HEq.out.1 (by omega))), Ex.not_eq HEq.out.2.1 (kV2.block Br F5.out.lt (nX2 Br HEq.out.2.1 (by omega))), Ex.not_eq HEq.out.2.2 (kV2.block _ F6.out.size (nX2 _ HEq.out.2.2 (by omega)))⟩
          go_wp2_with fail
          refine ⟨⟨_, _, _, _, _, _, _, _, _, _, _, _, _, _, _, _, _, _, _, _, _, _, _, _, _, _, _, _, _, _, _, _, _, _, _, _, _, _, _, _, _, _, _, _, _, _, D :: Ds, V.heap.size, t, m, pre ++ pairsR y e (runsL f y), ?rel, rfl⟩, ?measure⟩
          case rel =>
            refine ⟨by omega, by simp [go_sem], by simp [go_sem], ht2, by omega, ?_, hJ _ _ _ hJV hSV, by (simp only [World.size_alloc, World.size_setCell]; omega), (kV2.cell (p := ⟨W.heap.size, 0, none⟩) hWq (nX2 W.heap.size nW (by omega))).trans f3, (kV2.cell (p := ⟨B0, 0, none⟩) (show B0 < wq.heap.size by omega) (nX2 B0 HEq.out.1 (by omega))).trans f4, F5.out.kept kV2 (nX2 Br HEq.out.2.1 (by omega)), F6.out.kept kV2 (nX2 _ HEq.out.2.2 (by omega)), hM9, hIn, HIW.out.of_eq (kV2.block W.heap.size hWq (nX2 W.heap.size nW (by omega))), hE9⟩
            rw [← hT9, List.append_assoc]
            exact HL.out
          case measure =>
            have h9 : ((V.setCell ⟨g, 0, none⟩ (.int .i64 (t : Int))).alloc (.cells #[.int .i64 (t : Int)] 3)).cell? ⟨V.heap.size, 0, none⟩ = some (.int .i64 (t : Int)) := by simp [go_sem]
            rw [cellN_eq h9, HCN.out]
            omega
        case stop =>
          rintro D c ps V hD hps ⟨rfl, p', hp', hJV, hKV⟩ hDV
          dsimp only
          go_wp2_with fail
          rw [Exit.noGoto_normal]
          refine leaves_marks rfl (D :: Ds) V ((F8.out.kept hKV (fun D' hD' => nX D' (F8.out.ge D' hD') (fun cs t h9 => by rw [F8.out.obj D' hD'] at h9; cases h9))).cons hDV (by omega) (fun h9 => by have := F8.out.lt h9; omega)) (fun w' hb' => ⟨⟨_, rfl⟩, .inr ⟨p', hp', hJx _ _ _ hJV hb'⟩⟩)
theorem region_seqY (X : Nat → Prop) (B0 Br : Nat) (f : Nat → Bool) (G : Nat → Nat) (W : World) (h0 : W.cell? ⟨B0, 0, none⟩ = some (.pointer (some ⟨Br, 0, none⟩))) (hG : RowsAt W Br G) (hf : RowsOK f G) (hD : DebW W)
    (x0 : ¬ X B0) (x1 : ¬ X Br) (x2 : ¬ X 2) (hX : ∀ k, X k → k < W.heap.size) :
    SeqY Tryd.prog 152 #[.pointer (some ⟨B0, 0, none⟩)] (fun r : R4 => #[.agg #[.int .i64 r.a, .int .i64 r.b, .int .i64 r.c, .int .i64 r.d]]) X (fun t => t = 3) (canonL f) W :=
  (region_seqU X W.heap.size B0 Br f G W h0 hG hf hD (Ex.not_lt x0 (World.block_lt_of_cell? W ⟨B0, 0, none⟩ h0)) (Ex.not_lt x1 hG.lt) (Ex.not_lt x2 hD.size) hX).toY
theorem region_seq (X : Nat → Prop) (B0 Br : Nat) (f : Nat → Bool) (G : Nat → Nat) (W : World) (h0 : W.cell? ⟨B0, 0, none⟩ = some (.pointer (some ⟨Br, 0, none⟩))) (hG : RowsAt W Br G) (hf : RowsOK f G) (hD : DebW W)
    (x0 : ¬ X B0) (x1 : ¬ X Br) (x2 : ¬ X 2) (hX : ∀ k, X k → k < W.heap.size) :
    SeqX Tryd.prog 152 #[.pointer (some ⟨B0, 0, none⟩)] (fun r : R4 => #[.agg #[.int .i64 r.a, .int .i64 r.b, .int .i64 r.c, .int .i64 r.d]]) X (canonL f) W :=
  (region_seqY X B0 Br f G W h0 hG hf hD x0 x1 x2 hX).toX
end Go.Proofs.YtciodcknobccdaaDoor
