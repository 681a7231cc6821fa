/- The program's table of Boolean operations. No condition. -/
import Derived.Test.YtfbalpkjcfdakaaGreatDoorQD
import Derived.Test.YtfbalpkjcfdakaaGreatDoorQI
import Derived.StillTailTactics
import Derived.Shelf.Spec.SlicesInsert
import Derived.Test.YtfbalpkjcfdakaaGreatDoorQJ
namespace Go.Proofs.YtfbalpkjcfdakaaGreatDoor
open Go.RowKit Go.Lib
set_option linter.unusedVariables false
set_option linter.unusedSimpArgs false

set_option maxHeartbeats 2000000 in
theorem common_any (a b c d : Nat) (w : World) (ha : W64 a) (hb : W64 b) (hc : W64 c) (hd : W64 d) :
    Calls Tryz.prog 178 #[colV a b, colV c d] w fun e w' => e = .returned (colV (a &&& c) (b &&& d)) ∧ Below w.heap.size w w' := by
  have h1 := bits_and_u64_nat a c ha hc
  have h2 := bits_and_u64_nat b d hb hd
  go_enter Tryz.func178, Tryz.ntmps178
  go_wp2_with fail
  refine bodyPost_ret (v := colV (a &&& c) (b &&& d)) (by simp [*, results, Tryz.results178, go_sem]) rfl ⟨rfl, ?_⟩
  (repeat (first | (with_reducible exact Below.refl _ _) | (with_reducible refine Ext.drewN ?_ _) | (with_reducible refine Below.drew ?_) | (with_reducible refine Ext.alloc ?_ _) | (with_reducible refine Ext.setCell ?_ (by simp; try omega) _) | (with_reducible refine Ext.trans ?_ (by assumption)) | (with_reducible assumption) | exact Below.refl _ _))

set_option maxHeartbeats 2000000 in
theorem differing_any (a b c d : Nat) (w : World) (ha : W64 a) (hb : W64 b) (hc : W64 c) (hd : W64 d) :
    Calls Tryz.prog 107 #[colV a b, colV c d] w fun e w' => e = .returned (colV (a ^^^ c) (b ^^^ d)) ∧ Below w.heap.size w w' := by
  have h1 := bits_xor_u64_nat a c ha hc
  have h2 := bits_xor_u64_nat b d hb hd
  go_enter Tryz.func107, Tryz.ntmps107
  go_wp2_with fail
  refine bodyPost_ret (v := colV (a ^^^ c) (b ^^^ d)) (by simp [*, results, Tryz.results107, go_sem]) rfl ⟨rfl, ?_⟩
  (repeat (first | (with_reducible exact Below.refl _ _) | (with_reducible refine Ext.drewN ?_ _) | (with_reducible refine Below.drew ?_) | (with_reducible refine Ext.alloc ?_ _) | (with_reducible refine Ext.setCell ?_ (by simp; try omega) _) | (with_reducible refine Ext.trans ?_ (by assumption)) | (with_reducible assumption) | exact Below.refl _ _))

theorem run_store_fn {P : Program} {w : World} {a : Addr} {m : Mode} (f : Fn) (c b : Array Value) : (store a (.func f c b) m).run P w = stored P w a (.func f c b) m := run_store P w a _ m rfl
attribute [local go_sem] run_store_fn
/-- A function of the table, and whether the first operand's rows stay. -/
abbrev fnV (f : Nat) : Value := .func (.func f) #[] #[]
abbrev opsV : Value := .agg #[fnV 177, .bool true, fnV 178, .bool false, fnV 179, .bool true, fnV 107, .bool true]
theorem operations_any (w : World) :
    Calls Tryz.prog 144 #[] w fun e w' => e = .returned opsV ∧ Below w.heap.size w w' := by
  go_enter Tryz.func144, Tryz.ntmps144
  go_wp2_with fail
  refine bodyPost_ret (v := opsV) (by simp [*, results, Tryz.results144, go_sem]) rfl ⟨rfl, ?_⟩
  (repeat (first | (with_reducible exact Below.refl _ _) | (with_reducible refine Ext.drewN ?_ _) | (with_reducible refine Below.drew ?_) | (with_reducible refine Ext.alloc ?_ _) | (with_reducible refine Ext.setCell ?_ (by simp; try omega) _) | (with_reducible refine Ext.trans ?_ (by assumption)) | (with_reducible assumption) | exact Below.refl _ _))
end Go.Proofs.YtfbalpkjcfdakaaGreatDoor

/- The program's sweep of the rows of a region over a set. Conditions: the elements' cells are in memory, the rectangles are valid. -/
namespace Go.Proofs.YtfbalpkjcfdakaaGreatDoor
open Go.RowKit Go.Shelf
set_option linter.unusedVariables false
set_option linter.unusedSimpArgs false
attribute [local go_sem] Oper.semAt_some run_store_fn
/-- A function of the table and what it does to words. -/
structure CombF (f : Nat) (cw : Nat → Nat → Nat) : Prop where
  ent : ∀ args w, (callFunc f args).run Tryz.prog w = .ok (.enter f args) w
  call : ∀ (a b c d : Nat) (w : World), W64 a → W64 b → W64 c → W64 d → Calls Tryz.prog f #[colV a b, colV c d] w fun e w' => e = .returned (colV (cw a c) (cw b d)) ∧ Below w.heap.size w w'
  word : ∀ a c, W64 a → W64 c → W64 (cw a c)
def setR (H : Nat → Nat) (i A B : Nat) : Nat → Nat := upd (upd H (i * 2) A) (i * 2 + 1) B
/-- The words that a sweep begins with. -/
def swH (kf : Bool) (G : Nat → Nat) : Nat → Nat := if kf = true then G else fun _ => 0
/-- The words that a sweep makes. -/
def swG (cw : Nat → Nat → Nat) (H G : Nat → Nat) (L : List RowE) : Nat → Nat := L.foldl (fun H e => setR H (e.1 + 40).toNat (cw (G ((e.1 + 40).toNat * 2)) e.2.1) (cw (G ((e.1 + 40).toNat * 2 + 1)) e.2.2)) H
theorem swG_snoc (cw : Nat → Nat → Nat) (H G : Nat → Nat) (L : List RowE) (e : RowE) : swG cw H G (L ++ [e]) = setR (swG cw H G L) (e.1 + 40).toNat (cw (G ((e.1 + 40).toNat * 2)) e.2.1) (cw (G ((e.1 + 40).toNat * 2 + 1)) e.2.2) := by unfold swG; rw [List.foldl_append]; rfl
theorem run_copy59 (w : World) (g b0 : Nat) (G G0 : Nat → Nat) (ty : TypeId) (h : RowsAt w g G0) (h0 : RowsAt w b0 G) :
    (Builtin.copy_ #[221, 221] ty #[.slice (some ⟨g, 0, none⟩) 80 80, .slice (some ⟨b0, 0, none⟩) 80 80]).run Tryz.prog w = .ok (goInt 80) (w.setRow g (wArr G)) := by
  have hu : Tryz.prog.underlying 221 = some (.slice 84) := Tryz.underlying221
  have hs : (Tryz.prog.info? 84).map (·.size) = some 2 := by kernel_rfl
  have hl := run_loadCells_list (P := Tryz.prog) w ⟨b0, 0, none⟩ (wArr G).toList (fun j v hj => by
    rw [addG]
    rw [cell_of_row _ _ j _ _ _ h0]
    simpa using hj)
  have hlen : (wArr G).toList.length = 160 := by simp [wArr_size]
  rw [hlen] at hl
  have hst := store59 G h
  cases hq : Tryz.prog.info? 84 with
  | none => simp [hq] at hs
  | some i =>
    have hi : i.size = 2 := by simpa [hq] using hs
    simp [Builtin.copy_, run_underlying hu, Builtin.lenOf, Builtin.firstCells, sizeOf, typeInfo, hq, hi, hl, hst]
theorem results_one {fn : Func} {p : Tmp} {ty : TypeId} (h : fn.results = #[.cell p ty]) (tmps : Array Value) (P : Program) (w : World) :
    (results fn tmps).run P w = ((asAddr (tmps.getD p undef)).run P w).andThen fun a w₁ => (loadVar ty a).run P w₁ := by
  simp only [results, h]
  simp [Sem.run_bind, Result.andThen]
set_option maxRecDepth 100000 in
set_option maxHeartbeats 4000000 in
theorem sweep_any (f : Nat) (kf : Bool) (cw : Nat → Nat → Nat) (hC : CombF f cw) (b0 : Nat) (G : Nat → Nat) (m : Option Addr) (n cap : Nat) (P Q R S : Nat → Int) (w : World) (hn : n ≤ 1048576) (hcap : n ≤ cap) (hR : RectsIs w.heap.size w m n P Q R S) (hv : ∀ i, i < n → rvB (P i) (Q i) (R i) (S i) = true)
    (hG : RowsAt w b0 G) (hGw : ∀ j, W64 (G j)) :
    Calls Tryz.prog 145 #[.agg #[fnV f, .bool kf], .pointer (some ⟨b0, 0, none⟩), .slice m n cap] w fun e w' => e = .returned (.agg (wArr (swG cw (swH kf G) G (rowsQ n P Q R S n)))) ∧ Below w.heap.size w w' := by
  have hz := zero59
  have HC := Lib.hid hC
  have HR := Lib.hid hR
  have hb0 := hG.lt
  clear hC hR
  refine calls_of_marks Tryz.func145 rfl ?_
  simp only [Tryz.ntmps145, List.size_toArray, List.length_cons, List.length_nil, Nat.reduceAdd, Nat.reduceSub, Array.replicate_succ, Array.replicate_zero, List.push_toArray, List.append_toArray, List.nil_append, List.cons_append]
  cases kf with
  | true =>
    go_upto_region 3 with fail
    obtain ⟨w4, hw4⟩ : ∃ w4, w4 = (((w.alloc (.cells #[fnV f, .bool true] 188)).alloc (.cells #[.pointer (some ⟨b0, 0, none⟩)] 143)).alloc (.cells (wArr fun _ => 0) 86)).alloc (.cells (wArr fun _ => 0) 86) := ⟨_, rfl⟩
    have s4 : w4.heap.size = w.heap.size + 4 := by rw [hw4]; simp
    have b4 : Below w.heap.size w w4 := by rw [hw4]; (repeat (first | (with_reducible exact Below.refl _ _) | (with_reducible refine Ext.drewN ?_ _) | (with_reducible refine Below.drew ?_) | (with_reducible refine Ext.alloc ?_ _) | (with_reducible refine Ext.setCell ?_ (by simp; try omega) _) | (with_reducible refine Ext.trans ?_ (by assumption)) | (with_reducible assumption) | exact Below.refl _ _))
    have c1 : w4.cell? ⟨w.heap.size + 1, 0, none⟩ = some (.pointer (some ⟨b0, 0, none⟩)) := by rw [hw4]; simp [go_sem]
    have c0 : w4.cell? ⟨w.heap.size, 0, none⟩ = some (fnV f) := by rw [hw4]; simp [go_sem]
    have r2 : RowsAt w4 (w.heap.size + 2) (fun _ => 0) := by
      rw [hw4]
      refine RowsAt.ext ?_ ((Below.refl _ _).alloc (Nat.le_refl _) _)
      have := RowsAt.new ((w.alloc (.cells #[fnV f, .bool true] 188)).alloc (.cells #[.pointer (some ⟨b0, 0, none⟩)] 143)) (fun _ => 0)
      rwa [World.size_alloc, World.size_alloc] at this
    have r3 : RowsAt w4 (w.heap.size + 3) (fun _ => 0) := by
      rw [hw4]
      have := RowsAt.new (((w.alloc (.cells #[fnV f, .bool true] 188)).alloc (.cells #[.pointer (some ⟨b0, 0, none⟩)] 143)).alloc (.cells (wArr fun _ => 0) 86)) (fun _ => 0)
      rwa [World.size_alloc, World.size_alloc, World.size_alloc] at this
    have rG := hG.ext b4
    rw [← hw4]
    clear hw4
    go_still_tail 4, (by kernel_rfl)
    change wpList _ _ _ _ _ w4.drew
    refine wpList_copy_runI _ rfl _ _ 221 221 rfl _ _ rfl rfl (run_copy59 w4.drew (w.heap.size + 3) b0 G (fun _ => 0) _ r3 rG) ?_
    obtain ⟨wA, hwA⟩ : ∃ wA, wA = w4.drew.setRow (w.heap.size + 3) (wArr G) := ⟨_, rfl⟩
    have sA : wA.heap.size = w.heap.size + 4 := by rw [hwA, setRow_size]; exact s4
    have bA : Below w.heap.size w wA := by rw [hwA]; exact b4.drew.trans (below_setRow _ _ (by omega))
    have oA : ∀ k, k ≠ w.heap.size + 3 → wA.heap[k]? = w4.heap[k]? := fun k hk => by rw [hwA]; exact setRow_other _ _ _ hk
    have c0A : wA.cell? ⟨w.heap.size, 0, none⟩ = some (fnV f) := (World.cell?_of_block (w := w4) (a := ⟨w.heap.size, 0, none⟩) (oA _ (show w.heap.size ≠ w.heap.size + 3 by omega))).trans c0
    have c1A : wA.cell? ⟨w.heap.size + 1, 0, none⟩ = some (.pointer (some ⟨b0, 0, none⟩)) := (World.cell?_of_block (w := w4) (a := ⟨w.heap.size + 1, 0, none⟩) (oA _ (show w.heap.size + 1 ≠ w.heap.size + 3 by omega))).trans c1
    have r2A : RowsAt wA (w.heap.size + 2) (fun _ => 0) := (oA _ (by omega)).trans r2
    have r3A : RowsAt wA (w.heap.size + 3) G := by rw [hwA]; exact RowsAt.setRow (W := w4.drew) G r3
    have rGA : RowsAt wA b0 G := (oA _ (by omega)).trans rG
    rw [← hwA]
    clear hwA oA r2 r3 c0 c1 rG b4 s4
    obtain ⟨H0, hH0⟩ : ∃ H0, H0 = G := ⟨_, rfl⟩
    rw [← hH0] at r3A
    have HH0 := Lib.hid hH0
    clear hH0
    go_wp2_with (first | (go_at_call 131; refine (rowsOf_any _ _ _ _).mono ?_; rintro e w2 ⟨rfl, hw2⟩; subst hw2))
    obtain ⟨wS, hwS⟩ : ∃ wS, wS = wA.alloc (.cells #[.slice m n cap] 26) := ⟨_, rfl⟩
    have sS : wS.heap.size = w.heap.size + 5 := by rw [hwS]; simp [sA]
    have bS : Below wA.heap.size wA wS := by rw [hwS]; (repeat (first | (with_reducible exact Below.refl _ _) | (with_reducible refine Ext.drewN ?_ _) | (with_reducible refine Below.drew ?_) | (with_reducible refine Ext.alloc ?_ _) | (with_reducible refine Ext.setCell ?_ (by simp; try omega) _) | (with_reducible refine Ext.trans ?_ (by assumption)) | (with_reducible assumption) | exact Below.refl _ _))
    have cS : wS.cell? ⟨wA.heap.size, 0, none⟩ = some (.slice m n cap) := by rw [hwS]; simp [go_sem]
    have r2S := r2A.ext bS
    have r3S := r3A.ext bS
    have rGS := rGA.ext bS
    have c0S := keepC bS c0A
    have c1S := keepC bS c1A
    have bwS := Ext.trans bA bS
    have RS := Lib.hid (HR.out.ext bwS)
    rw [← hwS]
    clear hwS r2A r3A rGA c0A c1A
    rw [sA] at cS
    refine rangeX2 (gf := 164) (lb := #[.pointer (some ⟨w.heap.size + 4, 0, none⟩)]) rfl (enters_of Tryz.func164 (by kernel_rfl) rfl) (encs := fun e : RowE => #[.int .i64 e.1, colV e.2.1 e.2.2]) (L := rowsQ n P Q R S n) (fun k => k = w.heap.size + 3) (fun k hk => by omega) ?hseq (fun _ => rfl)
      (fun ps V => RowsAt V (w.heap.size + 3) (swG cw H0 G ps) ∧ Kept (fun k => k = w.heap.size + 3) wS V)
      (fun _ _ _ => False)
      (fun s A B hs hb => ⟨hs.1.below hb (by omega), ⟨hb.os.trans hs.2.os, hb.tape.trans hs.2.tape, hb.output.trans hs.2.output, Nat.le_trans hs.2.size hb.size, fun k hk hX => (hb.block k hk).trans (hs.2.block k hk hX)⟩⟩)
      (fun _ _ _ _ h _ => h) ⟨r3S, Kept.refl _ _⟩
      (fun T e Bx => (((T.setIfInBounds 20 (.int .i64 e.1)).setIfInBounds 21 (colV e.2.1 e.2.2)).setIfInBounds 8 (.int .i64 e.1)).setIfInBounds 9 (.pointer (some ⟨Bx, 0, none⟩))) (fun e => .cells #[.int .u64 (e.2.1 : Int), .int .u64 (e.2.2 : Int)] 84) ?assign ?body ?done ?stop
    case hseq =>
      intro V hV hVs
      exact rowsOf_seq _ (w.heap.size + 4) m n cap n P Q R S V ((hV.cell (p := ⟨w.heap.size + 4, 0, none⟩) (show w.heap.size + 4 < wS.heap.size by omega)).trans cS) (by omega) (fun k hk => by omega) hn hcap (Nat.le_refl _) (RS.out.ext hV) (fun h0 b off e => by
        obtain ⟨b1, o1, e1, h1, -⟩ := HR.out 0 h0
        rw [e1] at e
        cases e
        omega) hv
    case assign =>
      intro l e V K hK
      gi_wp2
      exact hK
    case body =>
      rintro l ps ⟨y, A, B⟩ post Bx V hL hBx hVB ⟨hr, hk⟩
      obtain ⟨⟨v1, v2⟩, v3, v4⟩ := rowsQ_ok n P Q R S n hv (y, A, B) (by rw [hL]; simp)
      dsimp only at v1 v2 v3 v4 hVB
      have v5 : W64 B := by unfold W64; omega
      have cB0 : V.cell? ⟨Bx, 0, none⟩ = some (.int .u64 (A : Int)) := by rw [cell_of_row _ _ 0 _ _ _ hVB]; rfl
      have cB1 : V.cell? ⟨Bx, 1, none⟩ = some (.int .u64 (B : Int)) := by rw [cell_of_row _ _ 1 _ _ _ hVB]; rfl
      have rGV := rGS.kept hk (by omega)
      obtain ⟨i, hyi⟩ : ∃ i : Nat, y + 40 = (i : Int) := ⟨(y + 40).toNat, by omega⟩
      have hit : (y + 40).toNat = i := by omega
      have hj : i < 80 := by omega
      have g0 := rGV.cell (j := i * 2) (by omega)
      have g1 := rGV.cell (j := i * 2 + 1) (by omega)
      have c0V := (hk.cell (p := ⟨w.heap.size, 0, none⟩) (show w.heap.size < wS.heap.size by omega) (show ¬ w.heap.size = w.heap.size + 3 by omega)).trans c0S
      have c1V := (hk.cell (p := ⟨w.heap.size + 1, 0, none⟩) (show w.heap.size + 1 < wS.heap.size by omega) (show ¬ w.heap.size + 1 = w.heap.size + 3 by omega)).trans c1S
      have lV := hk.size
      have lB : Bx < V.heap.size := World.block_lt_of_cell? V ⟨Bx, 0, none⟩ cB0
      have hS : Kept (fun k => k = w.heap.size + 3) V V.drew := (Kept.refl (fun k => k = w.heap.size + 3) V).drew
      have k0 : ∀ w', Kept (fun k => k = w.heap.size + 3) V w' → w'.cell? ⟨Bx, 0, none⟩ = some (.int .u64 (A : Int)) := fun w' h9 => (h9.cell (p := ⟨Bx, 0, none⟩) lB (show ¬ Bx = w.heap.size + 3 by omega)).trans cB0
      have k1 : ∀ w', Kept (fun k => k = w.heap.size + 3) V w' → w'.cell? ⟨Bx, 1, none⟩ = some (.int .u64 (B : Int)) := fun w' h9 => (h9.cell (p := ⟨Bx, 1, none⟩) lB (show ¬ Bx = w.heap.size + 3 by omega)).trans cB1
      have k2 : ∀ w', Kept (fun k => k = w.heap.size + 3) V w' → w'.cell? ⟨w.heap.size, 0, none⟩ = some (fnV f) := fun w' h9 => (h9.cell (p := ⟨w.heap.size, 0, none⟩) (show w.heap.size < V.heap.size by omega) (show ¬ w.heap.size = w.heap.size + 3 by omega)).trans c0V
      have k3 : ∀ w', Kept (fun k => k = w.heap.size + 3) V w' → w'.cell? ⟨w.heap.size + 1, 0, none⟩ = some (.pointer (some ⟨b0, 0, none⟩)) := fun w' h9 => (h9.cell (p := ⟨w.heap.size + 1, 0, none⟩) (show w.heap.size + 1 < V.heap.size by omega) (show ¬ w.heap.size + 1 = w.heap.size + 3 by omega)).trans c1V
      have k4 : ∀ w', Kept (fun k => k = w.heap.size + 3) V w' → w'.cell? ⟨b0, i * 2, none⟩ = some (.int .u64 (G (i * 2) : Int)) := fun w' h9 => (h9.cell (p := ⟨b0, i * 2, none⟩) (show b0 < V.heap.size by omega) (show ¬ b0 = w.heap.size + 3 by omega)).trans g0
      have k5 : ∀ w', Kept (fun k => k = w.heap.size + 3) V w' → w'.cell? ⟨b0, i * 2 + 1, none⟩ = some (.int .u64 (G (i * 2 + 1) : Int)) := fun w' h9 => (h9.cell (p := ⟨b0, i * 2 + 1, none⟩) (show b0 < V.heap.size by omega) (show ¬ b0 = w.heap.size + 3 by omega)).trans g1
      have hmix : Tryz.prog.follows .mixedOrders = true := by kernel_rfl
      have q0 : (0 : Int) ≤ (i : Int) := by omega
      have q1 : (i : Int) < 80 := by omega
      have hw1 : IntKind.i64.wrap (y + 40) = (i : Int) := by rw [IntKind.wrap_i64]; omega
      have hsn := swG_snoc cw H0 G ps (y, A, B)
      dsimp only at hsn
      rw [hit] at hsn
      have HSN := Lib.hid hsn
      have HL := Lib.hid hL
      have HYI := Lib.hid hyi
      have w0 := hGw (i * 2)
      have w1 := hGw (i * 2 + 1)
      clear hsn hVB cB0 cB1 g0 g1 c0V c1V hL hit hyi
      dsimp only
      gi_wp2
      refine regionR (S := fun w' => Kept (fun k => k = w.heap.size + 3) V w') hmix ?_
      refine takeR (i := 0) (.int .i64 (i : Int)) rfl (by kernel_rfl) (by kernel_rfl) (by kernel_rfl) (by kernel_rfl) (fun _ _ _ h => h) (by rfl) ?_ (fun _ => rfl) hS ?_
      · intro w' h9
        simp [go_sem, k0 w' h9, k1 w' h9, k2 w' h9, k3 w' h9, k4 w' h9, k5 w' h9, q0, q1, Act.put]
      simp only [go_sem, Act.put, List.getElem_toArray, List.getElem_cons_succ, List.getElem_cons_zero, List.setIfInBounds_toArray, List.set_cons_succ, List.set_cons_zero]
      refine takeR (i := 1) (.pointer (some ⟨w.heap.size, 0, none⟩)) rfl (by kernel_rfl) (by kernel_rfl) (by kernel_rfl) (by kernel_rfl) (fun _ _ _ h => h) (by rfl) ?_ (fun _ => rfl) hS ?_
      · intro w' h9
        simp [go_sem, k0 w' h9, k1 w' h9, k2 w' h9, k3 w' h9, k4 w' h9, k5 w' h9, q0, q1, Act.put]
      simp only [go_sem, Act.put, List.getElem_toArray, List.getElem_cons_succ, List.getElem_cons_zero, List.setIfInBounds_toArray, List.set_cons_succ, List.set_cons_zero]
      refine takeR (i := 2) (fnV f) rfl (by kernel_rfl) (by kernel_rfl) (by kernel_rfl) (by kernel_rfl) (fun _ _ _ h => h) (by rfl) ?_ (fun _ => rfl) hS ?_
      · intro w' h9
        simp [go_sem, k0 w' h9, k1 w' h9, k2 w' h9, k3 w' h9, k4 w' h9, k5 w' h9, q0, q1, Act.put]
      simp only [go_sem, Act.put, List.getElem_toArray, List.getElem_cons_succ, List.getElem_cons_zero, List.setIfInBounds_toArray, List.set_cons_succ, List.set_cons_zero]
      refine takeR (i := 3) (.pointer (some ⟨b0, 0, none⟩)) rfl (by kernel_rfl) (by kernel_rfl) (by kernel_rfl) (by kernel_rfl) (fun _ _ _ h => h) (by rfl) ?_ (fun _ => rfl) hS ?_
      · intro w' h9
        simp [go_sem, k0 w' h9, k1 w' h9, k2 w' h9, k3 w' h9, k4 w' h9, k5 w' h9, q0, q1, Act.put]
      simp only [go_sem, Act.put, List.getElem_toArray, List.getElem_cons_succ, List.getElem_cons_zero, List.setIfInBounds_toArray, List.set_cons_succ, List.set_cons_zero]
      refine takeR (i := 4) (.int .i64 (i : Int)) rfl (by kernel_rfl) (by kernel_rfl) (by kernel_rfl) (by kernel_rfl) (fun _ _ _ h => h) (by rfl) ?_ (fun _ => rfl) hS ?_
      · intro w' h9
        simp [go_sem, k0 w' h9, k1 w' h9, k2 w' h9, k3 w' h9, k4 w' h9, k5 w' h9, q0, q1, Act.put]
      simp only [go_sem, Act.put, List.getElem_toArray, List.getElem_cons_succ, List.getElem_cons_zero, List.setIfInBounds_toArray, List.set_cons_succ, List.set_cons_zero]
      refine takeR (i := 5) (.pointer (some ⟨b0, 0, none⟩)) rfl (by kernel_rfl) (by kernel_rfl) (by kernel_rfl) (by kernel_rfl) (fun _ _ _ h => h) (by rfl) ?_ (fun _ => rfl) hS ?_
      · intro w' h9
        simp [go_sem, k0 w' h9, k1 w' h9, k2 w' h9, k3 w' h9, k4 w' h9, k5 w' h9, q0, q1, Act.put]
      simp only [go_sem, Act.put, List.getElem_toArray, List.getElem_cons_succ, List.getElem_cons_zero, List.setIfInBounds_toArray, List.set_cons_succ, List.set_cons_zero]
      refine takeR (i := 6) (.pointer (some ⟨b0, i * 2, none⟩)) rfl (by kernel_rfl) (by kernel_rfl) (by kernel_rfl) (by kernel_rfl) (fun _ _ _ h => h) (by rfl) ?_ (fun _ => rfl) hS ?_
      · intro w' h9
        simp [go_sem, k0 w' h9, k1 w' h9, k2 w' h9, k3 w' h9, k4 w' h9, k5 w' h9, q0, q1, Act.put]
      simp only [go_sem, Act.put, List.getElem_toArray, List.getElem_cons_succ, List.getElem_cons_zero, List.setIfInBounds_toArray, List.set_cons_succ, List.set_cons_zero]
      refine takeR (i := 7) (colV (G (i * 2)) (G (i * 2 + 1))) rfl (by kernel_rfl) (by kernel_rfl) (by kernel_rfl) (by kernel_rfl) (fun _ _ _ h => h) (by rfl) ?_ (fun _ => rfl) hS ?_
      · intro w' h9
        simp [go_sem, k0 w' h9, k1 w' h9, k2 w' h9, k3 w' h9, k4 w' h9, k5 w' h9, q0, q1, Act.put]
      simp only [go_sem, Act.put, List.getElem_toArray, List.getElem_cons_succ, List.getElem_cons_zero, List.setIfInBounds_toArray, List.set_cons_succ, List.set_cons_zero]
      refine takeR (i := 8) (colV A B) rfl (by kernel_rfl) (by kernel_rfl) (by kernel_rfl) (by kernel_rfl) (fun _ _ _ h => h) (by rfl) ?_ (fun _ => rfl) hS ?_
      · intro w' h9
        simp [go_sem, k0 w' h9, k1 w' h9, k2 w' h9, k3 w' h9, k4 w' h9, k5 w' h9, q0, q1, Act.put]
      simp only [go_sem, Act.put, List.getElem_toArray, List.getElem_cons_succ, List.getElem_cons_zero, List.setIfInBounds_toArray, List.set_cons_succ, List.set_cons_zero]
      refine oneR (i := 9) (by kernel_rfl) (wpOpIn_step rfl fun K' hK' => ?_)
      rw [if_pos (by rfl)]
      refine ⟨fun _ _ => trivial, ?_⟩
      simp only [go_sem, Act.put]
      simp [go_sem, HC.out.ent]
      refine (CallsIn.inRound l (callsIn_wide.2 (HC.out.call _ _ _ _ _ w0 w1 v3 v5))).mono ?_
      rintro e9 W9 ⟨rfl, bW9⟩
      have hS9 : Kept (fun k => k = w.heap.size + 3) V W9 := hS.trans (Kept.of_below bW9)
      have r9 := hr.ext ((Below.refl _ V).drew.trans bW9)
      have z0 : W9.cell? ⟨w.heap.size + 1 + 1 + 1, i * 2, none⟩ = some (.int .u64 (swG cw H0 G ps (i * 2) : Int)) := r9.cell (by omega)
      have z1 : W9.cell? ⟨w.heap.size + 1 + 1 + 1, i * 2 + 1, none⟩ = some (.int .u64 (swG cw H0 G ps (i * 2 + 1) : Int)) := r9.cell (by omega)
      have y0 : W9.frozen? ⟨w.heap.size + 1 + 1 + 1, i * 2, none⟩ = false := r9.frozen _
      have y1 : W9.frozen? ⟨w.heap.size + 1 + 1 + 1, i * 2 + 1, none⟩ = false := r9.frozen _
      dsimp only
      refine hK' _ _ ⟨hS9, ?_⟩
      refine takeR (i := 10) (.pointer (some ⟨w.heap.size + 1 + 1 + 1, i * 2, none⟩)) rfl (by kernel_rfl) (by kernel_rfl) (by kernel_rfl) (by kernel_rfl) (fun _ _ _ h => h) (by rfl) ?_ (fun _ => rfl) hS9 ?_
      · intro w' h9
        simp [go_sem, q0, q1, Act.put]
      simp only [go_sem, Act.put, List.getElem_toArray, List.getElem_cons_succ, List.getElem_cons_zero, List.setIfInBounds_toArray, List.set_cons_succ, List.set_cons_zero]
      clear hK'
      refine oneR (i := 11) (by kernel_rfl) (wpOpIn_step rfl fun K' hK' => ?_)
      rw [if_pos (by rfl)]
      refine ⟨fun _ _ => trivial, ?_⟩
      simp only [go_sem, Act.put]
      simp [go_sem, z0, z1, y0, y1]
      have hKe : Kept (fun k => k = w.heap.size + 3) V ((W9.setCell ⟨w.heap.size + 1 + 1 + 1, i * 2, none⟩ (.int .u64 (cw (G (i * 2)) A : Int))).setCell ⟨w.heap.size + 1 + 1 + 1, i * 2 + 1, none⟩ (.int .u64 (cw (G (i * 2 + 1)) B : Int))) := (hS9.setCell (X := fun k => k = w.heap.size + 3) (p := ⟨w.heap.size + 1 + 1 + 1, i * 2, none⟩) rfl _).setCell (X := fun k => k = w.heap.size + 3) (p := ⟨w.heap.size + 1 + 1 + 1, i * 2 + 1, none⟩) rfl _
      refine hK' _ _ ⟨hKe, ?_⟩
      refine doneR (by kernel_rfl) ?_ _
      gi_wp2
      refine ⟨hKe, ?_, hk.trans hKe⟩
      rw [HSN.out]
      exact (r9.set (j := i * 2) (by omega) (cw (G (i * 2)) A)).set (j := i * 2 + 1) (by omega) (cw (G (i * 2 + 1)) B)
    case done =>
      rintro D V hDq ⟨hr, hk⟩ hDV
      have r2V := r2S.kept hk (by omega)
      have hrw : RowsAt V (w.heap.size + 1 + 1 + 1) (swG cw H0 G (rowsQ n P Q R S n)) := hr
      have r2w : RowsAt V (w.heap.size + 1 + 1) (fun _ => 0) := r2V
      dsimp only
      go_upto_region 9 with fail
      refine wp_region_lit ?_
      unfold wpList
      rw [if_pos (by rfl)]
      refine .inl (op_load59 rfl rfl hrw ?_)
      unfold wpList
      rw [if_pos (by rfl)]
      refine .inl (op_store59 (d := 6) (s := 35) (G := swG cw H0 G (rowsQ n P Q R S n)) ?_ ?_ ?_ r2w ?_)
      · rfl
      · rfl
      · rfl
      simp only [go_sem, Act.put]
      go_wp2_with fail
      refine leaves_one (D := D) (v := .agg (wArr (swG cw H0 G (rowsQ n P Q R S n)))) ((setRow_other _ _ _ (by omega)).trans hDV) (fun w' hw' => ?_)
      have r9 : RowsAt w' (w.heap.size + 1 + 1) (swG cw H0 G (rowsQ n P Q R S n)) := by
        rw [hw']
        exact (World.putObj_heap_other (by omega)).trans (r2w.setRow _)
      refine ⟨by rw [results_one rfl]; simp [asAddr, Result.andThen, loadVar59 r9], by rw [HH0.out]; rfl, ?_⟩
      rw [hw']
      exact ((bwS.trans (hk.below (n := w.heap.size) (by omega) (fun k hk' e => by omega))).trans (below_setRow _ _ (by omega))).trans (below_putObj _ _ (by omega))
    case stop =>
      intro D c ps V _ _ h _
      exact h.elim
  | false =>
    go_upto_region 4 with fail
    obtain ⟨wA, hwA⟩ : ∃ wA, wA = (((w.alloc (.cells #[fnV f, .bool false] 188)).alloc (.cells #[.pointer (some ⟨b0, 0, none⟩)] 143)).alloc (.cells (wArr fun _ => 0) 86)).alloc (.cells (wArr fun _ => 0) 86) := ⟨_, rfl⟩
    have sA : wA.heap.size = w.heap.size + 4 := by rw [hwA]; simp
    have bA : Below w.heap.size w wA := by rw [hwA]; (repeat (first | (with_reducible exact Below.refl _ _) | (with_reducible refine Ext.drewN ?_ _) | (with_reducible refine Below.drew ?_) | (with_reducible refine Ext.alloc ?_ _) | (with_reducible refine Ext.setCell ?_ (by simp; try omega) _) | (with_reducible refine Ext.trans ?_ (by assumption)) | (with_reducible assumption) | exact Below.refl _ _))
    have c1A : wA.cell? ⟨w.heap.size + 1, 0, none⟩ = some (.pointer (some ⟨b0, 0, none⟩)) := by rw [hwA]; simp [go_sem]
    have c0A : wA.cell? ⟨w.heap.size, 0, none⟩ = some (fnV f) := by rw [hwA]; simp [go_sem]
    have r2A : RowsAt wA (w.heap.size + 2) (fun _ => 0) := by
      rw [hwA]
      refine RowsAt.ext ?_ ((Below.refl _ _).alloc (Nat.le_refl _) _)
      have := RowsAt.new ((w.alloc (.cells #[fnV f, .bool false] 188)).alloc (.cells #[.pointer (some ⟨b0, 0, none⟩)] 143)) (fun _ => 0)
      rwa [World.size_alloc, World.size_alloc] at this
    have r3A : RowsAt wA (w.heap.size + 3) (fun _ => 0) := by
      rw [hwA]
      have := RowsAt.new (((w.alloc (.cells #[fnV f, .bool false] 188)).alloc (.cells #[.pointer (some ⟨b0, 0, none⟩)] 143)).alloc (.cells (wArr fun _ => 0) 86)) (fun _ => 0)
      rwa [World.size_alloc, World.size_alloc, World.size_alloc] at this
    have rGA := hG.ext bA
    rw [← hwA]
    clear hwA
    obtain ⟨H0, hH0⟩ : ∃ H0 : Nat → Nat, H0 = fun _ => 0 := ⟨_, rfl⟩
    rw [← hH0] at r3A
    have HH0 := Lib.hid hH0
    clear hH0
    go_wp2_with (first | (go_at_call 131; refine (rowsOf_any _ _ _ _).mono ?_; rintro e w2 ⟨rfl, hw2⟩; subst hw2))
    obtain ⟨wS, hwS⟩ : ∃ wS, wS = wA.alloc (.cells #[.slice m n cap] 26) := ⟨_, rfl⟩
    have sS : wS.heap.size = w.heap.size + 5 := by rw [hwS]; simp [sA]
    have bS : Below wA.heap.size wA wS := by rw [hwS]; (repeat (first | (with_reducible exact Below.refl _ _) | (with_reducible refine Ext.drewN ?_ _) | (with_reducible refine Below.drew ?_) | (with_reducible refine Ext.alloc ?_ _) | (with_reducible refine Ext.setCell ?_ (by simp; try omega) _) | (with_reducible refine Ext.trans ?_ (by assumption)) | (with_reducible assumption) | exact Below.refl _ _))
    have cS : wS.cell? ⟨wA.heap.size, 0, none⟩ = some (.slice m n cap) := by rw [hwS]; simp [go_sem]
    have r2S := r2A.ext bS
    have r3S := r3A.ext bS
    have rGS := rGA.ext bS
    have c0S := keepC bS c0A
    have c1S := keepC bS c1A
    have bwS := Ext.trans bA bS
    have RS := Lib.hid (HR.out.ext bwS)
    rw [← hwS]
    clear hwS r2A r3A rGA c0A c1A
    rw [sA] at cS
    refine rangeX2 (gf := 164) (lb := #[.pointer (some ⟨w.heap.size + 4, 0, none⟩)]) rfl (enters_of Tryz.func164 (by kernel_rfl) rfl) (encs := fun e : RowE => #[.int .i64 e.1, colV e.2.1 e.2.2]) (L := rowsQ n P Q R S n) (fun k => k = w.heap.size + 3) (fun k hk => by omega) ?hseq (fun _ => rfl)
      (fun ps V => RowsAt V (w.heap.size + 3) (swG cw H0 G ps) ∧ Kept (fun k => k = w.heap.size + 3) wS V)
      (fun _ _ _ => False)
      (fun s A B hs hb => ⟨hs.1.below hb (by omega), ⟨hb.os.trans hs.2.os, hb.tape.trans hs.2.tape, hb.output.trans hs.2.output, Nat.le_trans hs.2.size hb.size, fun k hk hX => (hb.block k hk).trans (hs.2.block k hk hX)⟩⟩)
      (fun _ _ _ _ h _ => h) ⟨r3S, Kept.refl _ _⟩
      (fun T e Bx => (((T.setIfInBounds 20 (.int .i64 e.1)).setIfInBounds 21 (colV e.2.1 e.2.2)).setIfInBounds 8 (.int .i64 e.1)).setIfInBounds 9 (.pointer (some ⟨Bx, 0, none⟩))) (fun e => .cells #[.int .u64 (e.2.1 : Int), .int .u64 (e.2.2 : Int)] 84) ?assign ?body ?done ?stop
    case hseq =>
      intro V hV hVs
      exact rowsOf_seq _ (w.heap.size + 4) m n cap n P Q R S V ((hV.cell (p := ⟨w.heap.size + 4, 0, none⟩) (show w.heap.size + 4 < wS.heap.size by omega)).trans cS) (by omega) (fun k hk => by omega) hn hcap (Nat.le_refl _) (RS.out.ext hV) (fun h0 b off e => by
        obtain ⟨b1, o1, e1, h1, -⟩ := HR.out 0 h0
        rw [e1] at e
        cases e
        omega) hv
    case assign =>
      intro l e V K hK
      gi_wp2
      exact hK
    case body =>
      rintro l ps ⟨y, A, B⟩ post Bx V hL hBx hVB ⟨hr, hk⟩
      obtain ⟨⟨v1, v2⟩, v3, v4⟩ := rowsQ_ok n P Q R S n hv (y, A, B) (by rw [hL]; simp)
      dsimp only at v1 v2 v3 v4 hVB
      have v5 : W64 B := by unfold W64; omega
      have cB0 : V.cell? ⟨Bx, 0, none⟩ = some (.int .u64 (A : Int)) := by rw [cell_of_row _ _ 0 _ _ _ hVB]; rfl
      have cB1 : V.cell? ⟨Bx, 1, none⟩ = some (.int .u64 (B : Int)) := by rw [cell_of_row _ _ 1 _ _ _ hVB]; rfl
      have rGV := rGS.kept hk (by omega)
      obtain ⟨i, hyi⟩ : ∃ i : Nat, y + 40 = (i : Int) := ⟨(y + 40).toNat, by omega⟩
      have hit : (y + 40).toNat = i := by omega
      have hj : i < 80 := by omega
      have g0 := rGV.cell (j := i * 2) (by omega)
      have g1 := rGV.cell (j := i * 2 + 1) (by omega)
      have c0V := (hk.cell (p := ⟨w.heap.size, 0, none⟩) (show w.heap.size < wS.heap.size by omega) (show ¬ w.heap.size = w.heap.size + 3 by omega)).trans c0S
      have c1V := (hk.cell (p := ⟨w.heap.size + 1, 0, none⟩) (show w.heap.size + 1 < wS.heap.size by omega) (show ¬ w.heap.size + 1 = w.heap.size + 3 by omega)).trans c1S
      have lV := hk.size
      have lB : Bx < V.heap.size := World.block_lt_of_cell? V ⟨Bx, 0, none⟩ cB0
      have hS : Kept (fun k => k = w.heap.size + 3) V V.drew := (Kept.refl (fun k => k = w.heap.size + 3) V).drew
      have k0 : ∀ w', Kept (fun k => k = w.heap.size + 3) V w' → w'.cell? ⟨Bx, 0, none⟩ = some (.int .u64 (A : Int)) := fun w' h9 => (h9.cell (p := ⟨Bx, 0, none⟩) lB (show ¬ Bx = w.heap.size + 3 by omega)).trans cB0
      have k1 : ∀ w', Kept (fun k => k = w.heap.size + 3) V w' → w'.cell? ⟨Bx, 1, none⟩ = some (.int .u64 (B : Int)) := fun w' h9 => (h9.cell (p := ⟨Bx, 1, none⟩) lB (show ¬ Bx = w.heap.size + 3 by omega)).trans cB1
      have k2 : ∀ w', Kept (fun k => k = w.heap.size + 3) V w' → w'.cell? ⟨w.heap.size, 0, none⟩ = some (fnV f) := fun w' h9 => (h9.cell (p := ⟨w.heap.size, 0, none⟩) (show w.heap.size < V.heap.size by omega) (show ¬ w.heap.size = w.heap.size + 3 by omega)).trans c0V
      have k3 : ∀ w', Kept (fun k => k = w.heap.size + 3) V w' → w'.cell? ⟨w.heap.size + 1, 0, none⟩ = some (.pointer (some ⟨b0, 0, none⟩)) := fun w' h9 => (h9.cell (p := ⟨w.heap.size + 1, 0, none⟩) (show w.heap.size + 1 < V.heap.size by omega) (show ¬ w.heap.size + 1 = w.heap.size + 3 by omega)).trans c1V
      have k4 : ∀ w', Kept (fun k => k = w.heap.size + 3) V w' → w'.cell? ⟨b0, i * 2, none⟩ = some (.int .u64 (G (i * 2) : Int)) := fun w' h9 => (h9.cell (p := ⟨b0, i * 2, none⟩) (show b0 < V.heap.size by omega) (show ¬ b0 = w.heap.size + 3 by omega)).trans g0
      have k5 : ∀ w', Kept (fun k => k = w.heap.size + 3) V w' → w'.cell? ⟨b0, i * 2 + 1, none⟩ = some (.int .u64 (G (i * 2 + 1) : Int)) := fun w' h9 => (h9.cell (p := ⟨b0, i * 2 + 1, none⟩) (show b0 < V.heap.size by omega) (show ¬ b0 = w.heap.size + 3 by omega)).trans g1
      have hmix : Tryz.prog.follows .mixedOrders = true := by kernel_rfl
      have q0 : (0 : Int) ≤ (i : Int) := by omega
      have q1 : (i : Int) < 80 := by omega
      have hw1 : IntKind.i64.wrap (y + 40) = (i : Int) := by rw [IntKind.wrap_i64]; omega
      have hsn := swG_snoc cw H0 G ps (y, A, B)
      dsimp only at hsn
      rw [hit] at hsn
      have HSN := Lib.hid hsn
      have HL := Lib.hid hL
      have HYI := Lib.hid hyi
      have w0 := hGw (i * 2)
      have w1 := hGw (i * 2 + 1)
      clear hsn hVB cB0 cB1 g0 g1 c0V c1V hL hit hyi
      dsimp only
      gi_wp2
      refine regionR (S := fun w' => Kept (fun k => k = w.heap.size + 3) V w') hmix ?_
      refine takeR (i := 0) (.int .i64 (i : Int)) rfl (by kernel_rfl) (by kernel_rfl) (by kernel_rfl) (by kernel_rfl) (fun _ _ _ h => h) (by rfl) ?_ (fun _ => rfl) hS ?_
      · intro w' h9
        simp [go_sem, k0 w' h9, k1 w' h9, k2 w' h9, k3 w' h9, k4 w' h9, k5 w' h9, q0, q1, Act.put]
      simp only [go_sem, Act.put, List.getElem_toArray, List.getElem_cons_succ, List.getElem_cons_zero, List.setIfInBounds_toArray, List.set_cons_succ, List.set_cons_zero]
      refine takeR (i := 1) (.pointer (some ⟨w.heap.size, 0, none⟩)) rfl (by kernel_rfl) (by kernel_rfl) (by kernel_rfl) (by kernel_rfl) (fun _ _ _ h => h) (by rfl) ?_ (fun _ => rfl) hS ?_
      · intro w' h9
        simp [go_sem, k0 w' h9, k1 w' h9, k2 w' h9, k3 w' h9, k4 w' h9, k5 w' h9, q0, q1, Act.put]
      simp only [go_sem, Act.put, List.getElem_toArray, List.getElem_cons_succ, List.getElem_cons_zero, List.setIfInBounds_toArray, List.set_cons_succ, List.set_cons_zero]
      refine takeR (i := 2) (fnV f) rfl (by kernel_rfl) (by kernel_rfl) (by kernel_rfl) (by kernel_rfl) (fun _ _ _ h => h) (by rfl) ?_ (fun _ => rfl) hS ?_
      · intro w' h9
        simp [go_sem, k0 w' h9, k1 w' h9, k2 w' h9, k3 w' h9, k4 w' h9, k5 w' h9, q0, q1, Act.put]
      simp only [go_sem, Act.put, List.getElem_toArray, List.getElem_cons_succ, List.getElem_cons_zero, List.setIfInBounds_toArray, List.set_cons_succ, List.set_cons_zero]
      refine takeR (i := 3) (.pointer (some ⟨b0, 0, none⟩)) rfl (by kernel_rfl) (by kernel_rfl) (by kernel_rfl) (by kernel_rfl) (fun _ _ _ h => h) (by rfl) ?_ (fun _ => rfl) hS ?_
      · intro w' h9
        simp [go_sem, k0 w' h9, k1 w' h9, k2 w' h9, k3 w' h9, k4 w' h9, k5 w' h9, q0, q1, Act.put]
      simp only [go_sem, Act.put, List.getElem_toArray, List.getElem_cons_succ, List.getElem_cons_zero, List.setIfInBounds_toArray, List.set_cons_succ, List.set_cons_zero]
      refine takeR (i := 4) (.int .i64 (i : Int)) rfl (by kernel_rfl) (by kernel_rfl) (by kernel_rfl) (by kernel_rfl) (fun _ _ _ h => h) (by rfl) ?_ (fun _ => rfl) hS ?_
      · intro w' h9
        simp [go_sem, k0 w' h9, k1 w' h9, k2 w' h9, k3 w' h9, k4 w' h9, k5 w' h9, q0, q1, Act.put]
      simp only [go_sem, Act.put, List.getElem_toArray, List.getElem_cons_succ, List.getElem_cons_zero, List.setIfInBounds_toArray, List.set_cons_succ, List.set_cons_zero]
      refine takeR (i := 5) (.pointer (some ⟨b0, 0, none⟩)) rfl (by kernel_rfl) (by kernel_rfl) (by kernel_rfl) (by kernel_rfl) (fun _ _ _ h => h) (by rfl) ?_ (fun _ => rfl) hS ?_
      · intro w' h9
        simp [go_sem, k0 w' h9, k1 w' h9, k2 w' h9, k3 w' h9, k4 w' h9, k5 w' h9, q0, q1, Act.put]
      simp only [go_sem, Act.put, List.getElem_toArray, List.getElem_cons_succ, List.getElem_cons_zero, List.setIfInBounds_toArray, List.set_cons_succ, List.set_cons_zero]
      refine takeR (i := 6) (.pointer (some ⟨b0, i * 2, none⟩)) rfl (by kernel_rfl) (by kernel_rfl) (by kernel_rfl) (by kernel_rfl) (fun _ _ _ h => h) (by rfl) ?_ (fun _ => rfl) hS ?_
      · intro w' h9
        simp [go_sem, k0 w' h9, k1 w' h9, k2 w' h9, k3 w' h9, k4 w' h9, k5 w' h9, q0, q1, Act.put]
      simp only [go_sem, Act.put, List.getElem_toArray, List.getElem_cons_succ, List.getElem_cons_zero, List.setIfInBounds_toArray, List.set_cons_succ, List.set_cons_zero]
      refine takeR (i := 7) (colV (G (i * 2)) (G (i * 2 + 1))) rfl (by kernel_rfl) (by kernel_rfl) (by kernel_rfl) (by kernel_rfl) (fun _ _ _ h => h) (by rfl) ?_ (fun _ => rfl) hS ?_
      · intro w' h9
        simp [go_sem, k0 w' h9, k1 w' h9, k2 w' h9, k3 w' h9, k4 w' h9, k5 w' h9, q0, q1, Act.put]
      simp only [go_sem, Act.put, List.getElem_toArray, List.getElem_cons_succ, List.getElem_cons_zero, List.setIfInBounds_toArray, List.set_cons_succ, List.set_cons_zero]
      refine takeR (i := 8) (colV A B) rfl (by kernel_rfl) (by kernel_rfl) (by kernel_rfl) (by kernel_rfl) (fun _ _ _ h => h) (by rfl) ?_ (fun _ => rfl) hS ?_
      · intro w' h9
        simp [go_sem, k0 w' h9, k1 w' h9, k2 w' h9, k3 w' h9, k4 w' h9, k5 w' h9, q0, q1, Act.put]
      simp only [go_sem, Act.put, List.getElem_toArray, List.getElem_cons_succ, List.getElem_cons_zero, List.setIfInBounds_toArray, List.set_cons_succ, List.set_cons_zero]
      refine oneR (i := 9) (by kernel_rfl) (wpOpIn_step rfl fun K' hK' => ?_)
      rw [if_pos (by rfl)]
      refine ⟨fun _ _ => trivial, ?_⟩
      simp only [go_sem, Act.put]
      simp [go_sem, HC.out.ent]
      refine (CallsIn.inRound l (callsIn_wide.2 (HC.out.call _ _ _ _ _ w0 w1 v3 v5))).mono ?_
      rintro e9 W9 ⟨rfl, bW9⟩
      have hS9 : Kept (fun k => k = w.heap.size + 3) V W9 := hS.trans (Kept.of_below bW9)
      have r9 := hr.ext ((Below.refl _ V).drew.trans bW9)
      have z0 : W9.cell? ⟨w.heap.size + 1 + 1 + 1, i * 2, none⟩ = some (.int .u64 (swG cw H0 G ps (i * 2) : Int)) := r9.cell (by omega)
      have z1 : W9.cell? ⟨w.heap.size + 1 + 1 + 1, i * 2 + 1, none⟩ = some (.int .u64 (swG cw H0 G ps (i * 2 + 1) : Int)) := r9.cell (by omega)
      have y0 : W9.frozen? ⟨w.heap.size + 1 + 1 + 1, i * 2, none⟩ = false := r9.frozen _
      have y1 : W9.frozen? ⟨w.heap.size + 1 + 1 + 1, i * 2 + 1, none⟩ = false := r9.frozen _
      dsimp only
      refine hK' _ _ ⟨hS9, ?_⟩
      refine takeR (i := 10) (.pointer (some ⟨w.heap.size + 1 + 1 + 1, i * 2, none⟩)) rfl (by kernel_rfl) (by kernel_rfl) (by kernel_rfl) (by kernel_rfl) (fun _ _ _ h => h) (by rfl) ?_ (fun _ => rfl) hS9 ?_
      · intro w' h9
        simp [go_sem, q0, q1, Act.put]
      simp only [go_sem, Act.put, List.getElem_toArray, List.getElem_cons_succ, List.getElem_cons_zero, List.setIfInBounds_toArray, List.set_cons_succ, List.set_cons_zero]
      clear hK'
      refine oneR (i := 11) (by kernel_rfl) (wpOpIn_step rfl fun K' hK' => ?_)
      rw [if_pos (by rfl)]
      refine ⟨fun _ _ => trivial, ?_⟩
      simp only [go_sem, Act.put]
      simp [go_sem, z0, z1, y0, y1]
      have hKe : Kept (fun k => k = w.heap.size + 3) V ((W9.setCell ⟨w.heap.size + 1 + 1 + 1, i * 2, none⟩ (.int .u64 (cw (G (i * 2)) A : Int))).setCell ⟨w.heap.size + 1 + 1 + 1, i * 2 + 1, none⟩ (.int .u64 (cw (G (i * 2 + 1)) B : Int))) := (hS9.setCell (X := fun k => k = w.heap.size + 3) (p := ⟨w.heap.size + 1 + 1 + 1, i * 2, none⟩) rfl _).setCell (X := fun k => k = w.heap.size + 3) (p := ⟨w.heap.size + 1 + 1 + 1, i * 2 + 1, none⟩) rfl _
      refine hK' _ _ ⟨hKe, ?_⟩
      refine doneR (by kernel_rfl) ?_ _
      gi_wp2
      refine ⟨hKe, ?_, hk.trans hKe⟩
      rw [HSN.out]
      exact (r9.set (j := i * 2) (by omega) (cw (G (i * 2)) A)).set (j := i * 2 + 1) (by omega) (cw (G (i * 2 + 1)) B)
    case done =>
      rintro D V hDq ⟨hr, hk⟩ hDV
      have r2V := r2S.kept hk (by omega)
      have hrw : RowsAt V (w.heap.size + 1 + 1 + 1) (swG cw H0 G (rowsQ n P Q R S n)) := hr
      have r2w : RowsAt V (w.heap.size + 1 + 1) (fun _ => 0) := r2V
      dsimp only
      go_upto_region 9 with fail
      refine wp_region_lit ?_
      unfold wpList
      rw [if_pos (by rfl)]
      refine .inl (op_load59 rfl rfl hrw ?_)
      unfold wpList
      rw [if_pos (by rfl)]
      refine .inl (op_store59 (d := 6) (s := 35) (G := swG cw H0 G (rowsQ n P Q R S n)) ?_ ?_ ?_ r2w ?_)
      · rfl
      · rfl
      · rfl
      simp only [go_sem, Act.put]
      go_wp2_with fail
      refine leaves_one (D := D) (v := .agg (wArr (swG cw H0 G (rowsQ n P Q R S n)))) ((setRow_other _ _ _ (by omega)).trans hDV) (fun w' hw' => ?_)
      have r9 : RowsAt w' (w.heap.size + 1 + 1) (swG cw H0 G (rowsQ n P Q R S n)) := by
        rw [hw']
        exact (World.putObj_heap_other (by omega)).trans (r2w.setRow _)
      refine ⟨by rw [results_one rfl]; simp [asAddr, Result.andThen, loadVar59 r9], by rw [HH0.out]; rfl, ?_⟩
      rw [hw']
      exact ((bwS.trans (hk.below (n := w.heap.size) (by omega) (fun k hk' e => by omega))).trans (below_setRow _ _ (by omega))).trans (below_putObj _ _ (by omega))
    case stop =>
      intro D c ps V _ _ h _
      exact h.elim
end Go.Proofs.YtfbalpkjcfdakaaGreatDoor

/- What a sweep makes of two sets: the words of the combined set. No run. -/
namespace Go.Proofs.YtfbalpkjcfdakaaGreatDoor
open Go.RowKit
set_option linter.unusedVariables false
set_option linter.unusedSimpArgs false

/-- The words' operation is the truth table's. -/
structure CombOK (op : Nat) (cw : Nat → Nat → Nat) (kf : Bool) : Prop where
  bit : ∀ a c i, W64 a → W64 c → i < 64 → (cw a c).testBit i = tt op (a.testBit i) (c.testBit i)
  high : ∀ a c, a < 65536 → c < 65536 → cw a c < 65536
  word : ∀ a c, W64 a → W64 c → W64 (cw a c)
  keep : ∀ x, tt op x false = (kf && x)
theorem combOr : CombOK 14 (fun a c => a ||| c) true :=
  ⟨fun a c i _ _ _ => by rw [Nat.testBit_or]; cases a.testBit i <;> cases c.testBit i <;> rfl, fun a c ha hc => Nat.or_lt_two_pow (n := 16) ha hc, fun a c ha hc => Nat.or_lt_two_pow (n := 64) ha hc, fun x => by cases x <;> rfl⟩
theorem combAnd : CombOK 8 (fun a c => a &&& c) false :=
  ⟨fun a c i _ _ _ => by rw [Nat.testBit_and]; cases a.testBit i <;> cases c.testBit i <;> rfl, fun a c ha hc => Nat.lt_of_le_of_lt Nat.and_le_left ha, fun a c ha hc => Nat.lt_of_le_of_lt Nat.and_le_left ha, fun x => by cases x <;> rfl⟩
theorem combNot : CombOK 4 (fun a c => a &&& (18446744073709551615 - c)) true :=
  ⟨fun a c i _ hc hi => by
      have e : 18446744073709551615 - c = 2 ^ 64 - (c + 1) := by have : (2 : Nat) ^ 64 = 18446744073709551616 := rfl; omega
      rw [Nat.testBit_and, e, Nat.testBit_two_pow_sub_succ hc, decide_eq_true hi]
      cases a.testBit i <;> cases c.testBit i <;> rfl,
    fun a c ha hc => Nat.lt_of_le_of_lt Nat.and_le_left ha, fun a c ha hc => Nat.lt_of_le_of_lt Nat.and_le_left ha, fun x => by cases x <;> rfl⟩
theorem combXor : CombOK 6 (fun a c => a ^^^ c) true :=
  ⟨fun a c i _ _ _ => by rw [Nat.testBit_xor]; cases a.testBit i <;> cases c.testBit i <;> rfl, fun a c ha hc => Nat.xor_lt_two_pow (n := 16) ha hc, fun a c ha hc => Nat.xor_lt_two_pow (n := 64) ha hc, fun x => by cases x <;> rfl⟩
theorem comb_col {op : Nat} {cw : Nat → Nat → Nat} {kf : Bool} (h : CombOK op cw kf) {a b c d : Nat} (ha : W64 a) (hb : W64 b) (hc : W64 c) (hd : W64 d) {i : Nat} (hi : i < 80) : colB (cw a c) (cw b d) i = tt op (colB a b i) (colB c d i) := by
  unfold colB
  by_cases h6 : i < 64
  · rw [if_pos h6, if_pos h6, if_pos h6, h.bit a c i ha hc h6]
  · rw [if_neg h6, if_neg h6, if_neg h6, h.bit b d (i - 64) hb hd (by omega)]

theorem setR_even (H : Nat → Nat) (i A B k : Nat) : setR H i A B (k * 2) = if k = i then A else H (k * 2) := by
  unfold setR upd
  rw [if_neg (by omega)]
  by_cases h : k = i
  · subst h; simp
  · rw [if_neg (by omega), if_neg h]
theorem setR_odd (H : Nat → Nat) (i A B k : Nat) : setR H i A B (k * 2 + 1) = if k = i then B else H (k * 2 + 1) := by
  unfold setR upd
  by_cases h : k = i
  · subst h; simp
  · rw [if_neg (by omega), if_neg (by omega), if_neg h]
theorem setR_word {H : Nat → Nat} {i A B : Nat} (hH : ∀ j, W64 (H j)) (hA : W64 A) (hB : W64 B) : ∀ j, W64 (setR H i A B j) := fun j => by
  unfold setR upd
  split
  · exact hB
  · split
    · exact hA
    · exact hH _

theorem swG_ok {op : Nat} {cw : Nat → Nat → Nat} {kf : Bool} (hc : CombOK op cw kf) {G H : Nat → Nat} (hG : ∀ j, W64 (G j)) (hH : ∀ j, W64 (H j)) (gG : ∀ i, i < 80 → G (i * 2 + 1) < 65536) (gH : ∀ i, i < 80 → H (i * 2 + 1) < 65536) :
    ∀ (L : List RowE), (∀ e, e ∈ L → (-40 ≤ e.1 ∧ e.1 ≤ 39) ∧ W64 e.2.1 ∧ e.2.2 < 65536) →
    (∀ j, W64 (swG cw H G L j)) ∧ (∀ i, i < 80 → swG cw H G L (i * 2 + 1) < 65536) ∧
    ∀ i : Nat, (∃ e, e ∈ L ∧ e.1 = (i : Int) - 40 ∧ swG cw H G L (i * 2) = cw (G (i * 2)) e.2.1 ∧ swG cw H G L (i * 2 + 1) = cw (G (i * 2 + 1)) e.2.2) ∨ ((∀ e, e ∈ L → e.1 ≠ (i : Int) - 40) ∧ swG cw H G L (i * 2) = H (i * 2) ∧ swG cw H G L (i * 2 + 1) = H (i * 2 + 1)) := by
  intro L
  rw [← List.reverse_reverse L]
  generalize L.reverse = M
  induction M with
  | nil => intro _; exact ⟨hH, gH, fun i => .inr ⟨fun e he => by simp at he, rfl, rfl⟩⟩
  | cons e M ih =>
    rw [List.reverse_cons]
    generalize M.reverse = L at ih
    intro h
    obtain ⟨h1, h2, h3⟩ := ih fun e' he => h e' (by simp [he])
    obtain ⟨v1, v2, v3⟩ := h e (by simp)
    rw [swG_snoc]
    have v4 : W64 e.2.2 := by unfold W64; omega
    refine ⟨setR_word h1 (hc.word _ _ (hG _) v2) (hc.word _ _ (hG _) v4), fun i hi => ?_, fun i => ?_⟩
    · rw [setR_odd]
      split
      · rename_i hie
        rw [← hie]
        exact hc.high _ _ (gG i hi) v3
      · exact h2 i hi
    · rw [setR_even, setR_odd]
      by_cases hi : i = (e.1 + 40).toNat
      · rw [if_pos hi, if_pos hi, ← hi]
        exact .inl ⟨e, by simp, by omega, rfl, rfl⟩
      · rw [if_neg hi, if_neg hi]
        rcases h3 i with ⟨e', a, b⟩ | ⟨a, b⟩
        · exact .inl ⟨e', by simp [a], b⟩
        · refine .inr ⟨fun e' he' => ?_, b⟩
          rcases List.mem_append.1 he' with he' | he'
          · exact a e' he'
          · rw [List.mem_singleton.1 he']
            omega

/-- The words of the combined set. -/
theorem sweep_rows {op : Nat} {cw : Nat → Nat → Nat} {kf : Bool} (hc : CombOK op cw kf) {f : Nat → Bool} {G : Nat → Nat} (hf : RowsOK f G) {P Q R S : Nat → Int} {n : Nat} (hok : okR P Q R S n = true) :
    RowsOK (fun j => tt op (f j) (covF P Q R S n j)) (swG cw (swH kf G) G (rowsQ n P Q R S n)) := by
  unfold swH
  have hk := rowsQ_ok n P Q R S n (okR_all hok)
  have hH : ∀ j, W64 ((if kf = true then G else fun _ => 0) j) := fun j => by
    split
    · exact hf.word j
    · exact (show (0 : Nat) < 18446744073709551616 by decide)
  have gH : ∀ i, i < 80 → (if kf = true then G else fun _ => 0) (i * 2 + 1) < 65536 := fun i hi => by
    split
    · exact hf.high i hi
    · exact (show (0 : Nat) < 65536 by decide)
  obtain ⟨h1, h2, h3⟩ := swG_ok hc hf.word hH hf.high gH _ hk
  refine ⟨h1, h2, fun i hi c hcc => ?_⟩
  have hin : (-40 ≤ ((c : Int) - 40) ∧ ((c : Int) - 40) ≤ 39) ∧ (-40 ≤ ((i : Int) - 40) ∧ ((i : Int) - 40) ≤ 39) := by omega
  have hb := hf.bits i hi c hcc
  rw [hasB_in hin]
  rw [hasB_in hin] at hb
  rcases h3 i with ⟨e, he, e1, e2, e3⟩ | ⟨hno, e2, e3⟩
  · obtain ⟨v1, v2, v3⟩ := hk e he
    rw [e2, e3, comb_col hc (hf.word _) (hf.word _) v2 (by unfold W64; omega) hcc, hb, rowsQ_has hok e he c hcc, e1, hasB_in hin]
  · have hz := rowsQ_all hok ((i : Int) - 40) hno ((c : Int) - 40)
    rw [hasB_in hin] at hz
    rw [e2, e3, hz, hc.keep]
    cases kf with
    | true => rw [if_pos rfl, hb, Bool.true_and]
    | false => rw [if_neg (by simp), Bool.false_and]; simp [colB]

/-- The region of no unit cells. -/
theorem canonL_none : canonL (fun _ => false) = [] := by
  have hh : ∀ x y, hasB (fun _ => false) x y = false := fun x y => by unfold hasB; rw [Bool.and_false]
  have hr : ∀ y k, runsTo (fun _ => false) y k = [] := fun y k => by
    induction k with
    | zero => rfl
    | succ k ih => rw [runsTo, if_neg (by unfold chg; rw [hh, hh]; simp), ih]
  have hc : ∀ n y, canonF (fun _ => false) n y = [] := fun n => by
    induction n with
    | zero => intro y; rfl
    | succ n ih =>
      intro y
      rw [canonF]
      split
      · rw [show runsL (fun _ => false) y = [] from hr y 81, ih]; rfl
      · rfl
  exact hc 80 (-40)
theorem rows_none : RowsOK (fun _ => false) (fun _ => 0) := ⟨fun _ => by unfold W64; omega, fun _ _ => by omega, fun i hi c hc => by unfold hasB; rw [Bool.and_false]; simp [colB]⟩
end Go.Proofs.YtfbalpkjcfdakaaGreatDoor

/- The program's merge of operands. Conditions: the elements' cells are in memory; the variables that regions read hold their tables. -/
namespace Go.Proofs.YtfbalpkjcfdakaaGreatDoor
open Go.RowKit Go.Shelf
set_option linter.unusedVariables false
set_option linter.unusedSimpArgs false
attribute [local go_sem] Oper.semAt_some run_store_fn

/-- The lists of a list. -/
def ListsIs (B : Nat) (w : World) (m : Option Addr) (k : Nat) (a : Nat → Option Addr) (n c : Nat → Nat) (P Q R S : Nat → Nat → Int) : Prop :=
  ∀ i, i < k → (∃ b off, m = some ⟨b, off, none⟩ ∧ b < B ∧ w.cell? ⟨b, off + i, none⟩ = some (.slice (a i) (n i) (c i))) ∧ n i ≤ 1048576 ∧ n i ≤ c i ∧ RectsIs B w (a i) (n i) (P i) (Q i) (R i) (S i)
theorem ListsIs.below {B : Nat} {w w' : World} {m : Option Addr} {k : Nat} {a : Nat → Option Addr} {n c : Nat → Nat} {P Q R S : Nat → Nat → Int} (h : ListsIs B w m k a n c P Q R S) (hb : Below B w w') : ListsIs B w' m k a n c P Q R S := fun i hi => by
  obtain ⟨⟨b, off, h1, h2, h3⟩, h4, h5, h6⟩ := h i hi
  exact ⟨⟨b, off, h1, h2, (hb.cell (p := ⟨b, off + i, none⟩) h2).trans h3⟩, h4, h5, h6.below hb⟩
/-- Are the first lists regions? -/
def okA (n : Nat → Nat) (P Q R S : Nat → Nat → Int) : Nat → Bool
  | 0 => true
  | i + 1 => okA n P Q R S i && okR (P i) (Q i) (R i) (S i) (n i)
/-- The flags of the first lists' combination. -/
def mgA (op : Nat) (f : Nat → Bool) (n : Nat → Nat) (P Q R S : Nat → Nat → Int) : Nat → Nat → Bool
  | 0 => f
  | i + 1 => fun j => tt op (mgA op f n P Q R S i j) (covF (P i) (Q i) (R i) (S i) (n i) j)
theorem okA_f {n : Nat → Nat} {P Q R S : Nat → Nat → Int} {i : Nat} (h : okR (P i) (Q i) (R i) (S i) (n i) = false) : ∀ k, i < k → okA n P Q R S k = false
  | 0, hk => by omega
  | k + 1, hk => by
    rw [okA]
    by_cases e : i = k
    · subst e; rw [h, Bool.and_false]
    · rw [okA_f h k (by omega), Bool.false_and]

theorem combF_with : CombF 177 (fun a c => a ||| c) := ⟨enters_of Tryz.func177 (by kernel_rfl) rfl, fun a b c d w ha hb hc hd => with_any a b c d w ha hb hc hd, combOr.word⟩
theorem combF_common : CombF 178 (fun a c => a &&& c) := ⟨enters_of Tryz.func178 (by kernel_rfl) rfl, fun a b c d w ha hb hc hd => common_any a b c d w ha hb hc hd, combAnd.word⟩
theorem combF_without : CombF 179 (fun a c => a &&& (18446744073709551615 - c)) := ⟨enters_of Tryz.func179 (by kernel_rfl) rfl, fun a b c d w ha hb hc hd => without_any a b c d w ha hb hc hd, combNot.word⟩
theorem combF_differing : CombF 107 (fun a c => a ^^^ c) := ⟨enters_of Tryz.func107 (by kernel_rfl) rfl, fun a b c d w ha hb hc hd => differing_any a b c d w ha hb hc hd, combXor.word⟩
theorem regG_ok {P Q R S : Nat → Int} {n : Nat} (h : okR P Q R S n = true) : RowsOK (covF P Q R S n) (regG P Q R S n) := by
  unfold regG
  rw [if_pos h]
  exact rows_of_list (Nat.le_refl _) (okR_all h)

end Go.Proofs.YtfbalpkjcfdakaaGreatDoor
