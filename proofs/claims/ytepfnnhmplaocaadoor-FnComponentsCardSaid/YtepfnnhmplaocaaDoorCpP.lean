/- The program's parts of a region: partsOf. Conditions: the rectangles' cells are in memory; they are a region; the tables are in memory. -/
import Derived.Test.YtepfnnhmplaocaaDoorCpO
import Derived.Deep.AppendLies
namespace Go.Proofs.YtepfnnhmplaocaaDoor
open Go.RowKit
set_option linter.unusedVariables false
set_option linter.unusedSimpArgs false
attribute [local go_sem ↓] Go.wp_at_zero Go.wp_at_succ

theorem infoRc : (Tryd.prog.info? 39).map (fun i => (i.zero, i.size, i.bytes)) = some (some (.agg #[.int .i64 0, .int .i64 0, .int .i64 0, .int .i64 0]), 4, 32) := by kernel_rfl
theorem infoLR : (Tryd.prog.info? 26).map (fun i => (i.zero, i.size, i.bytes)) = some (some (.slice none 0 0), 1, 24) := by kernel_rfl
set_option maxHeartbeats 16000000 in
set_option maxRecDepth 100000 in
theorem partsOf_any (m : Option Addr) (n cap : Nat) (P Q R S : Nat → Int) (wide : Bool) (w : World) (hn : n ≤ 3200) (hD : EnvW w) (hR : RectsIs w.heap.size w m n P Q R S) (hok : okR P Q R S n = true) :
    Calls Tryd.prog 75 #[.slice m n cap, .int .i64 (colW wide)] w fun e w' => LLOwn w.heap.size (cmpL (covF P Q R S n) wide) e w' ∧ Below w.heap.size w w' := by
  obtain ⟨i0, hi, hz0, hz1, hz2⟩ := info_parts infoPN
  obtain ⟨i1, hj, hy0, hy1, hy2⟩ := info_parts infoRc
  obtain ⟨i2, hk, hx0, hx1', hx2'⟩ := info_parts infoLR
  have HR := Lib.hid hR
  have HOK := Lib.hid hok
  have HD := Lib.hid hD
  have hparts := fun (K : Nat → Nat) hK => fsts_parts (P := P) (Q := Q) (R := R) (S := S) (n := n) (wide := wide) (K := K) hK hok
  obtain ⟨LLf, hLLf⟩ : ∃ LLf, cmpL (covF P Q R S n) wide = LLf := ⟨_, rfl⟩
  rw [hLLf] at hparts ⊢
  have HPARTS := Lib.hid hparts
  clear hLLf hparts
  have hroots := fun w' hR' => rootsOf_any m n cap P Q R S wide w' hn hR' hok
  obtain ⟨C, hC⟩ : ∃ C, colW wide = C := ⟨_, rfl⟩
  rw [hC] at hroots ⊢
  clear hR hok hC hD
  go_enter Tryd.func75, Tryd.ntmps75
  go_wp2_with fail
  refine (hroots _ HR.out).mono ?_
  rintro e w1 ⟨⟨h, c, M, N, K, p, rfl, hRO, hKn, hNi, hFA, ⟨hh0, hhM⟩, hrow⟩, bw1⟩
  have HRO := Lib.hid hRO
  have HKN := Lib.hid hKn
  have HNI := Lib.hid hNi
  have HN5 : Hid (∀ r, r < n → M ≤ N r ∧ N r < w1.heap.size) := Lib.hid (fun r hr => (hFA r hr).1)
  have HROW := Lib.hid hrow
  have HPC : Hid (PcS w1.heap.size P Q R S n N K 0 (.slice none 0 0) (fun _ => .slice none 0 0) w1) := Lib.hid (PcS.init hFA)
  have hw1 := bw1.size
  have HW1 := Lib.hid bw1
  clear hRO hKn hNi hFA hrow hroots bw1
  go_wp2_with fail
  go_loopw [5, 17] (fun s5 s17 wr => ∃ (i : Nat) (a0 : Option Addr) (c0 : Nat) (vP : Nat → Value), i ≤ n ∧ s5 = .slice a0 (fstsTo K i).length c0 ∧ s17 = .int .i64 (i : Nat) ∧ w1.heap.size ≤ wr.heap.size ∧ Hid (Below w.heap.size w wr) ∧ Hid (PcS w1.heap.size P Q R S n N K i (.slice a0 (fstsTo K i).length c0) vP wr) ∧ Hid (∀ k, k < n → wr.cell? ⟨h, k, none⟩ = some (.pointer (some ⟨N (K k), 0, none⟩)))) (fun _ s17 _ => n - (intOf s17).toNat)
  case atStart => exact ⟨0, none, 0, _, by omega, rfl, rfl, Nat.le_refl _, HW1, HPC, HROW⟩
  case round =>
    clear HW1 HPC HROW
    obtain ⟨i, a0, k0, vP, hin, rfl, rfl, hsz, HW, HPC, HROW⟩ := hrel
    by_cases hlt : i < n
    case neg =>
      obtain rfl : i = n := by omega
      have q1 : ¬ ((i : Nat) : Int) < (i : Int) := by omega
      have hpm := HPARTS.out K HRO.out
      obtain ⟨F, hF⟩ : ∃ F, fstsTo K i = F := ⟨_, rfl⟩
      have hFl := fstsTo_len K i
      have hFm : ∀ j, j ∈ F → j < i := fun j hj => by rw [← hF] at hj; exact (fstsTo_mem.1 hj).1
      rw [hF] at hpm hFl HPC ⊢
      have HFM := Lib.hid hFm
      have hrt := HPC.out.roots
      rw [hF] at hrt
      have HRT := Lib.hid hrt
      have hFl2 : F.length ≤ 3200 := by omega
      obtain ⟨f, hf⟩ : ∃ f, covF P Q R S i = f := ⟨_, rfl⟩
      rw [hf] at hpm
      have HPM := Lib.hid hpm
      have hcan := fun j hj => pieces_canon (i := j) HRO.out HOK.out hj
      rw [hf] at hcan
      have HCAN := Lib.hid hcan
      have hhas : ∀ j, j < i → hasB f (P j) (Q j) = true := fun j hj => by rw [← hf]; exact inI_has HOK.out hj (corner_in HOK.out hj)
      have HHAS := Lib.hid hhas
      obtain ⟨W2, hW2⟩ : ∃ W2, wr = W2 := ⟨_, rfl⟩
      rw [hW2] at HPC HRT HW hsz ⊢
      have HW2 := HW
      have hs2 := HW.out.size
      have hD2 := Lib.hid (HD.out.ext HW.out)
      clear hF hpm hFm hrt hcan hhas hf hW2 HROW HW
      go_wp2_with fail
      go_loopw [8, 48] (fun s8 s48 wr => ∃ (q : Nat) (a8 : Option Addr) (c8 : Nat) (V : List Value) (g : Nat → Nat), q ≤ F.length ∧ q ≤ c8 ∧ s8 = .slice a8 q c8 ∧ s48 = .int .i64 (q : Nat) ∧ Hid (Below W2.heap.size W2 wr) ∧ Hid (LsOwn W2.heap.size wr (.slice a8 q c8) ((F.take q).map fun j => canonL (partF f wide (P j) (Q j))) V g)) (fun _ s48 _ => F.length - (intOf s48).toNat)
      case atStart => exact ⟨0, none, 0, [], _, by omega, by omega, rfl, rfl, Lib.hid (Below.refl _ _), Lib.hid (LsOwn.nil _ _)⟩
      case round =>
        obtain ⟨q, a8, c8, V, g, hq, hqc, rfl, rfl, HB, HL⟩ := hrel
        by_cases hlq : q < F.length
        case neg =>
          obtain rfl : q = F.length := by omega
          have q3 : ¬ ((F.length : Nat) : Int) < (F.length : Int) := by omega
          have hlen : LLf.length = F.length := by rw [← HPM.out, List.length_map]
          have hl2 := HL.out
          rw [List.take_of_length_le (Nat.le_refl _), HPM.out] at hl2
          have hfin : LLOwn w.heap.size LLf (.returned (.slice a8 F.length c8)) wr := ⟨a8, c8, V, g, by rw [hlen], by rw [hlen]; exact hqc, by rw [hlen]; exact hl2.mono (by omega)⟩
          have HFIN := Lib.hid hfin
          clear hfin hl2 hlen
          go_wp2_with fail
          go_ret
          exact ⟨HFIN.out, Below.trans HW2.out (HB.out.mono (by omega))⟩
        have q3 : ((q : Nat) : Int) < (F.length : Int) := by omega
        have q4 : (0 : Int) ≤ ((q : Nat) : Int) := by omega
        obtain ⟨j, hjq⟩ : ∃ j, F[q]? = some j := ⟨_, List.getElem?_eq_getElem hlq⟩
        have hji := HFM.out j (List.mem_of_getElem? hjq)
        obtain ⟨hki, hkk⟩ := HKN.out j hji
        obtain ⟨g0, cap0, hg0⟩ : ∃ g0 cap0, Value.slice a0 F.length k0 = .slice (some ⟨g0, 0, none⟩) F.length cap0 := by
          rcases HRT.out.2 with ⟨_, h0⟩ | ⟨g0, cap0, _, h1, _⟩
          · omega
          · exact ⟨g0, cap0, h1⟩
        cases hg0
        have r1 := HRT.out.cells (g := g0) rfl q (.pointer (some ⟨N (K j), 0, none⟩)) (by rw [List.getElem?_map, hjq]; rfl)
        rw [addG] at r1
        have r2 := keepC HB.out r1
        have e1 := keepC HB.out (HPC.out.cell (K j) hki hkk).1
        obtain ⟨ap, cp, hvp, hcp, hown⟩ := ownsL_ownC (HPC.out.row (K j) hki hkk)
        rw [hvp] at e1
        have hpl := piecesTo_len P Q R S K (K j) i
        have hcn := HCAN.out j hji
        rw [← pieces_cong hkk i] at hcn
        obtain ⟨Lp, hLp⟩ : ∃ Lp, piecesTo P Q R S K (K j) i = Lp := ⟨_, rfl⟩
        rw [hLp] at e1 hvp hcp hown hpl hcn
        have hne := part_ne (wide := wide) (HHAS.out j hji)
        obtain ⟨l, hl⟩ : ∃ l, canonL (partF f wide (P j) (Q j)) = l := ⟨_, rfl⟩
        have hst : (F.take (q + 1)).map (fun j => canonL (partF f wide (P j) (Q j))) = (F.take q).map (fun j => canonL (partF f wide (P j) (Q j))) ++ [l] := by
          rw [List.take_add_one, hjq, Option.toList_some, List.map_append, ← hl]; rfl
        rw [hl] at hcn hne
        have hltk : ((F.take q).map fun j => canonL (partF f wide (P j) (Q j))).length = q := by rw [List.length_map, List.length_take]; omega
        obtain ⟨LLq, hLLq⟩ : ∃ LLq, (F.take q).map (fun j => canonL (partF f wide (P j) (Q j))) = LLq := ⟨_, rfl⟩
        rw [hLLq] at hst hltk HL
        have HST := Lib.hid hst
        have HLT := Lib.hid hltk
        have HCN := Lib.hid hcn
        have HLP := Lib.hid (RectsIs.ext hown.rects HB.out)
        have hws := HB.out.size
        have hlpl : Lp.length ≤ 1048576 := by omega
        have hll : l.length ≤ 3280 := by rw [← hl]; exact canonL_len _
        clear hst hltk hLLq hcn hown hl hvp r1 hLp hjq
        go_upto_region 14 with (go_at_call 115; refine (regionOfC_any ap Lp.length cp (pA Lp) (pB Lp) (pC Lp) (pD Lp) _ hlpl hcp (hD2.out.ext HB.out) HLP.out).mono ?_; rintro e w5 ⟨⟨a5, c5, rfl, k5, o5⟩, bw5⟩; rw [HCN.out] at k5 o5 ⊢; obtain ⟨b5, hb5⟩ : ∃ b5, okV (pA Lp) (pB Lp) (pC Lp) (pD Lp) Lp.length = b5 := ⟨_, rfl⟩; rw [hb5]; clear hb5)
        obtain ⟨x, rfl, hx1, hx2, hxr⟩ : ∃ x, a5 = some ⟨x, 0, none⟩ ∧ wr.heap.size ≤ x ∧ x < w5.heap.size ∧ RowR w5 x l.length (pA l) (pB l) (pC l) (pD l) := by
          rcases o5 with h0 | h0
          · rw [h0] at hne; simp at hne
          · exact h0
        have HL5 := Lib.hid (HL.out.below bw5)
        have HR5 := Lib.hid hxr
        have hs5 := bw5.size
        have HB5 := Lib.hid (Below.trans HB.out (bw5.mono (by omega)))
        have hrow5 := HL5.out.row
        rw [HLT.out] at hrow5
        have HRW5 := Lib.hid hrow5
        have HNB : Hid ((Value.slice a8 q c8).ownBlock ≠ some x) := Lib.hid (fun e => by have := (HL.out.row.lt x e).2; omega)
        have HNG : Hid (∀ t, t < LLq.length → g t ≠ x) := Lib.hid (fun t ht e => by
          obtain ⟨_, _, _, h3, _⟩ := HL.out.each t _ (List.getElem?_eq_getElem ht)
          omega)
        clear hxr o5 hrow5 HL HB HLP
        go_wp2_with (at_builtin; refine wpList_append_own_at _ rfl _ _ 36 rfl W2.heap.size 26 i2 (.slice none 0 0) 1 24 Tryd.underlying36 hk hx0 hx1' hx2' rfl (by decide) _ _ _ rfl (HRW5.out.alloc _) ⟨w5.heap.size, 0, none⟩ 1 1 [.slice (some ⟨x, 0, none⟩) l.length c5] rfl rfl ?c1 ?c2 ?c3 ?c4 ?c5 ?_)
        case c1 =>
          intro j u hj
          match j, hj with
          | 0, hj => simp at hj; subst hj; rw [addG]; simp [go_sem]
        case c2 => intro u hu; simp at hu; subst hu; rfl
        case c3 => unfold maxLen; omega
        case c4 => omega
        case c5 => (try simp only [World.size_alloc]); omega
        intro v' wn hown' hgrow _ hat
        have bA : Below w5.heap.size w5 (w5.alloc (.cells #[.slice (some ⟨x, 0, none⟩) l.length c5] 26)) := (Below.refl _ _).alloc (Nat.le_refl _) _
        have hls := LsOwn.snoc (x := x) (c := c5) (v' := v') (w' := wn) (HL5.out.below bA) hne k5 ⟨by omega, by simp; omega⟩ (HR5.out.below bA hx2) HNB.out HNG.out hgrow (by rw [HLT.out]; exact hown') (by rw [World.size_alloc]; exact hat)
        rw [← HST.out] at hls
        obtain ⟨a9, k9, rfl, hk9⟩ := own_sl hown'
        have HL6 := Lib.hid hls
        have HB6 := Lib.hid (show Below W2.heap.size W2 wn from Below.grown (Below.trans HB5.out (bA.mono (by omega))) hgrow (by simp; omega) (fun t ht => (HRW5.out.lt t ht).1))
        clear hls hown' hgrow hat bA HL5 HB5 HRW5
        go_wp2_with fail
        go_roundw
        case rel => exact ⟨q + 1, a9, k9, _, _, by omega, hk9, rfl, by go_num, HB6, HL6⟩
        case measure => simp [intOf]; omega
    have q1 : ((i : Nat) : Int) < (n : Int) := by omega
    have q0 : (0 : Int) ≤ ((i : Nat) : Int) := by omega
    obtain ⟨b1, o1, rfl, hb1, c0, c1, c2, c3⟩ := HR.out i hlt
    have d0 := (HW.out.cell (p := ⟨b1, o1 + i * 4, none⟩) hb1).trans c0
    have d1 := (HW.out.cell (p := ⟨b1, o1 + i * 4 + 1, none⟩) hb1).trans c1
    have d2 := (HW.out.cell (p := ⟨b1, o1 + i * 4 + 2, none⟩) hb1).trans c2
    have d3 := (HW.out.cell (p := ⟨b1, o1 + i * 4 + 3, none⟩) hb1).trans c3
    obtain ⟨hki, hkk⟩ := HKN.out i hlt
    have r1 := HROW.out i hlt
    obtain ⟨e1, e2⟩ := HPC.out.cell (K i) hki hkk
    obtain ⟨ap, cp, hvp, hcp⟩ := own_sl (HPC.out.row (K i) hki hkk)
    have hpl := piecesTo_len P Q R S K (K i) i
    have hfl := fstsTo_len K i
    have hpn := pieces_nil (P := P) (Q := Q) (R := R) (S := S) (K := K) (r := K i) (m := i)
    rw [hvp] at e1
    have hrowP := HPC.out.row (K i) hki hkk
    rw [hvp] at hrowP
    obtain ⟨L, hL⟩ : ∃ L, piecesTo P Q R S K (K i) i = L := ⟨_, rfl⟩
    rw [hL] at e1 hcp hpl hpn hrowP hvp
    obtain ⟨F, hF⟩ : ∃ F, fstsTo K i = F := ⟨_, rfl⟩
    rw [hF] at hfl HPC ⊢
    have HVP := Lib.hid hvp
    have HLL := Lib.hid hL
    have HFF := Lib.hid hF
    have HRP := Lib.hid hrowP
    obtain ⟨ρ, hρ⟩ : ∃ ρ, N (K i) = ρ := ⟨_, rfl⟩
    rw [hρ] at r1 e1 e2
    have HP0 := Lib.hid hρ
    have hρM := HN5.out (K i) hki
    rw [hρ] at hρM
    have hρw : ρ < wr.heap.size := by omega
    have HNE : Hid (some ρ ≠ (Value.slice ap L.length cp).ownBlock) := Lib.hid (fun e => by have := (hrowP.lt ρ e.symm).1; omega)
    by_cases hf : L.length = 0
    case neg =>
      have hz : ((L.length : Int) == 0) = false := by simpa using hf
      have hnf : ¬ isFst K i = true := fun hi' => hf (hpn.2 (fun j hj e => isFst_t.1 hi' j hj (e.trans hkk)))
      have HNF := Lib.hid hnf
      clear hvp hL hF hrowP hρ hnf hpn c0 c1 c2 c3
      have HFS : Hid (fstsTo K (i + 1) = F) := Lib.hid (by rw [fstsTo, if_neg HNF.out, HFF.out])
      have HRQ := HRP
      have hrt := HPC.out.roots
      rw [HFF.out] at hrt
      have HRT := Lib.hid hrt
      have HCE := Lib.hid HPC.out.cell
      have HRW := Lib.hid HPC.out.row
      have HINJ := Lib.hid HPC.out.inj
      have HWQ := HW
      have HRO2 := HROW
      clear hrt
      go_wp2_with fail
      go_region_law (refine step_append_lies _ (by rfl) _ _ _ (by rfl) w1.heap.size 39 i1 _ 4 32 Tryd.underlying26 hj hy0 hy1 hy2 rfl (by omega) (.slice ap L.length cp) L.length (recCells L) (by rfl) (by first | exact ((HRQ.out.alloc _).drew) | exact (HRQ.out.drew.alloc _) | exact HRQ.out.alloc _) ⟨wr.heap.size, 0, none⟩ 1 1 [.int .i64 (P i), .int .i64 (Q i), .int .i64 (R i), .int .i64 (S i)] (by rfl) (by rfl) (World.news_of_block (cs := #[.int .i64 (P i), .int .i64 (Q i), .int .i64 (R i), .int .i64 (S i)]) (t := 39) (fr := (0, 0)) (heap_alloc_new wr _)) (by simp [Value.oneCell']) (by omega) (by unfold maxLen; omega) (by omega) (by simp; omega) (wr.heap.size + 1) (by simp) ?_; intro gg cap4 w4 hown1 hgrow hat hlt4; have f1 := hgrow.cell (a := ⟨ρ, 1, none⟩) (by first | exact keepA e1 _ | (simp; exact e1)) HNE.out; have f2 := (hgrow.frozen_far ⟨ρ, 1, none⟩ (by simp; omega) HNE.out).trans (by simpa [go_sem, hρw] using e2))
      all_goals
        obtain ⟨Wa, hWa⟩ : ∃ Wa, Wa = (wr.alloc (.cells #[.int .i64 (P i), .int .i64 (Q i), .int .i64 (R i), .int .i64 (S i)] 39)).drew := ⟨_, rfl⟩
        rw [← hWa] at hgrow
        have bWa : Below wr.heap.size wr Wa := by rw [hWa]; exact ((Below.refl _ _).alloc (Nat.le_refl _) _).drew
        have sWa : Wa.heap.size = wr.heap.size + 1 := by rw [hWa]; simp
        have hpc := PcS.piece (w := Wa) (w' := w4) (v1 := .slice (some ⟨gg, 0, none⟩) (L.length + 1) cap4) (L := F) HFS.out.symm hlt hkk hki (own_keep HRT.out bWa) (fun r hr hk => ⟨keepC bWa (HCE.out r hr hk).1, (bWa.frozen (p := ⟨N r, 1, none⟩) (World.block_lt_of_cell? wr ⟨N r, 1, none⟩ (HCE.out r hr hk).1)).trans (HCE.out r hr hk).2⟩) (fun r hr hk => own_keep (HRW.out r hr hk) bWa) HINJ.out (fun r hr => (HN5.out r hr).2) HNI.out (by rw [HVP.out]; exact hgrow) (by rw [HLL.out]; exact hown1) (by rw [HVP.out]; rcases hat with hat | hat; (exact .inl hat.symm); (exact .inr (by rw [hat, sWa]; rfl))) (by omega)
        rw [HP0.out] at hpc
        have hwf : Below w.heap.size w (w4.setCell ⟨ρ, 1, none⟩ (.slice (some ⟨gg, 0, none⟩) (L.length + 1) cap4)) := Below.setCell (Below.grown (Below.trans HWQ.out (bWa.mono (by omega))) hgrow (by omega) (fun j hj => by have := (HRQ.out.lt j hj).1; omega)) (by show w.heap.size ≤ ρ; omega) _
        have hrf : ∀ k, k < n → (w4.setCell ⟨ρ, 1, none⟩ (.slice (some ⟨gg, 0, none⟩) (L.length + 1) cap4)).cell? ⟨h, k, none⟩ = some (.pointer (some ⟨N (K k), 0, none⟩)) := fun k hk => keepS (hgrow.cell (keepC bWa (HRO2.out k hk)) (fun e => by have := (HRQ.out.lt h e.symm).1; omega)) (by show ρ ≠ h; omega) _
        have hsz4 : w1.heap.size ≤ (w4.setCell ⟨ρ, 1, none⟩ (.slice (some ⟨gg, 0, none⟩) (L.length + 1) cap4)).heap.size := by have := hgrow.size; simp; omega
        have HPC2 := Lib.hid hpc
        have HWF := Lib.hid hwf
        have HRF := Lib.hid hrf
        clear hpc hwf hrf hWa bWa sWa hgrow hown1 hat hlt4 f1 f2
        go_wp2_with fail
        go_roundw
        case rel => exact ⟨i + 1, a0, k0, _, by omega, by rw [HFS.out], by go_num, hsz4, HWF, by rw [HFS.out]; exact HPC2, HRF⟩
        case measure => simp [intOf]; omega
    case pos =>
      have hz : ((L.length : Int) == 0) = true := by simpa using hf
      have hif : isFst K i = true := isFst_t.2 (fun j hj e => (hpn.1 hf) j hj (e.trans hkk.symm))
      have HFS : Hid (fstsTo K (i + 1) = F ++ [i]) := Lib.hid (by rw [fstsTo, if_pos hif, HFF.out])
      have hrt := HPC.out.roots
      rw [HFF.out] at hrt
      have HRT0 := Lib.hid hrt
      have hFl : F.length ≤ 3200 := by omega
      clear hvp hL hF hrowP hρ hpn c0 c1 c2 c3 hif hrt hf
      go_wp2_with (at_builtin; refine wpList_append_own_at _ rfl _ _ 109 rfl w1.heap.size 111 i0 (.pointer none) 1 8 Tryd.underlying109 hi hz0 hz1 hz2 rfl (by decide) _ _ _ rfl (HRT0.out.alloc _) ⟨wr.heap.size, 0, none⟩ 1 1 [.pointer (some ⟨ρ, 0, none⟩)] rfl rfl ?c1 ?c2 ?c3 ?c4 ?c5 ?_)
      case c1 =>
        intro j u hj
        match j, hj with
        | 0, hj => simp at hj; subst hj; rw [addG]; simp [go_sem]
      case c2 => intro u hu; simp at hu; subst hu; rfl
      case c3 => unfold maxLen; omega
      case c4 => omega
      case c5 => (try simp only [World.size_alloc]); omega
      intro v' wn hown' hgrow' _ hat'
      have bWr : Below wr.heap.size wr (wr.alloc (.cells #[.pointer (some ⟨ρ, 0, none⟩)] 111)) := (Below.refl _ _).alloc (Nat.le_refl _) _
      have hrr := PcS.root (v1 := v') (w' := wn) (HPC.out.below bWr) hgrow' (fun r hr => (HN5.out r hr).2) (by rw [HFF.out, HP0.out]; exact hown')
      rw [HFF.out] at hrr
      obtain ⟨a9, k9, rfl, hk9⟩ := own_sl hrr.1
      have hsn := hgrow'.size
      rw [World.size_alloc] at hsn
      have HRT := Lib.hid hrr.1
      have HCE := Lib.hid hrr.2.1
      have HRW := Lib.hid hrr.2.2
      have HINJ := Lib.hid HPC.out.inj
      have hrq := hrr.2.2 (K i) hki hkk
      rw [HVP.out, HLL.out] at hrq
      have HRQ := Lib.hid hrq
      have hce := hrr.2.1 (K i) hki hkk
      rw [HVP.out, HP0.out] at hce
      obtain ⟨e1, e2⟩ := hce
      have hrb : ∀ j, (Value.slice a0 F.length k0).ownBlock = some j → w1.heap.size ≤ j := fun j hj => (HRT0.out.lt j hj).1
      have HWQ := Lib.hid (show Below w.heap.size w wn from Below.grown (Below.trans HW.out (bWr.mono (by omega))) hgrow' (by simp; omega) (fun j hj => by have := hrb j hj; omega))
      have HRO2 : Hid (∀ k, k < n → wn.cell? ⟨h, k, none⟩ = some (.pointer (some ⟨N (K k), 0, none⟩))) := Lib.hid (fun k hk => hgrow'.cell (keepC bWr (HROW.out k hk)) (fun e => by have := hrb h e.symm; omega))
      have keep1 : ∀ o v, wr.cell? ⟨b1, o, none⟩ = some v → wn.cell? ⟨b1, o, none⟩ = some v := fun o v hc => hgrow'.cell (keepC bWr hc) (fun e => by have := hrb b1 e.symm; omega)
      have d0 := keep1 _ _ d0
      have d1 := keep1 _ _ d1
      have d2 := keep1 _ _ d2
      have d3 := keep1 _ _ d3
      have hρw : ρ < wn.heap.size := by omega
      have hsz : w1.heap.size ≤ wn.heap.size := by omega
      have HLN : Hid ((F ++ [i]).length = F.length + 1) := Lib.hid (by simp)
      have HRT := HRT
      clear hrr hown' hgrow' hat' bWr hrq keep1 hrb hk9 HW HPC HROW HRT0 HRP
      go_wp2_with fail
      go_region_law (refine step_append_lies _ (by rfl) _ _ _ (by rfl) w1.heap.size 39 i1 _ 4 32 Tryd.underlying26 hj hy0 hy1 hy2 rfl (by omega) (.slice ap L.length cp) L.length (recCells L) (by rfl) (by first | exact ((HRQ.out.alloc _).drew) | exact (HRQ.out.drew.alloc _) | exact HRQ.out.alloc _) ⟨wn.heap.size, 0, none⟩ 1 1 [.int .i64 (P i), .int .i64 (Q i), .int .i64 (R i), .int .i64 (S i)] (by rfl) (by rfl) (World.news_of_block (cs := #[.int .i64 (P i), .int .i64 (Q i), .int .i64 (R i), .int .i64 (S i)]) (t := 39) (fr := (0, 0)) (heap_alloc_new wn _)) (by simp [Value.oneCell']) (by omega) (by unfold maxLen; omega) (by omega) (by simp; omega) (wn.heap.size + 1) (by simp) ?_; intro gg cap4 w4 hown1 hgrow hat hlt4; have f1 := hgrow.cell (a := ⟨ρ, 1, none⟩) (by first | exact keepA e1 _ | (simp; exact e1)) HNE.out; have f2 := (hgrow.frozen_far ⟨ρ, 1, none⟩ (by simp; omega) HNE.out).trans (by simpa [go_sem, hρw] using e2))
      all_goals
        obtain ⟨Wa, hWa⟩ : ∃ Wa, Wa = (wn.alloc (.cells #[.int .i64 (P i), .int .i64 (Q i), .int .i64 (R i), .int .i64 (S i)] 39)).drew := ⟨_, rfl⟩
        rw [← hWa] at hgrow
        have bWa : Below wn.heap.size wn Wa := by rw [hWa]; exact ((Below.refl _ _).alloc (Nat.le_refl _) _).drew
        have sWa : Wa.heap.size = wn.heap.size + 1 := by rw [hWa]; simp
        have hpc := PcS.piece (w := Wa) (w' := w4) (v1 := .slice (some ⟨gg, 0, none⟩) (L.length + 1) cap4) (L := (F ++ [i])) HFS.out.symm hlt hkk hki (own_keep HRT.out bWa) (fun r hr hk => ⟨keepC bWa (HCE.out r hr hk).1, (bWa.frozen (p := ⟨N r, 1, none⟩) (World.block_lt_of_cell? wn ⟨N r, 1, none⟩ (HCE.out r hr hk).1)).trans (HCE.out r hr hk).2⟩) (fun r hr hk => own_keep (HRW.out r hr hk) bWa) HINJ.out (fun r hr => (HN5.out r hr).2) HNI.out (by rw [HVP.out]; exact hgrow) (by rw [HLL.out]; exact hown1) (by rw [HVP.out]; rcases hat with hat | hat; (exact .inl hat.symm); (exact .inr (by rw [hat, sWa]; rfl))) (by omega)
        rw [HP0.out] at hpc
        have hwf : Below w.heap.size w (w4.setCell ⟨ρ, 1, none⟩ (.slice (some ⟨gg, 0, none⟩) (L.length + 1) cap4)) := Below.setCell (Below.grown (Below.trans HWQ.out (bWa.mono (by omega))) hgrow (by omega) (fun j hj => by have := (HRQ.out.lt j hj).1; omega)) (by show w.heap.size ≤ ρ; omega) _
        have hrf : ∀ k, k < n → (w4.setCell ⟨ρ, 1, none⟩ (.slice (some ⟨gg, 0, none⟩) (L.length + 1) cap4)).cell? ⟨h, k, none⟩ = some (.pointer (some ⟨N (K k), 0, none⟩)) := fun k hk => keepS (hgrow.cell (keepC bWa (HRO2.out k hk)) (fun e => by have := (HRQ.out.lt h e.symm).1; omega)) (by show ρ ≠ h; omega) _
        have hsz4 : w1.heap.size ≤ (w4.setCell ⟨ρ, 1, none⟩ (.slice (some ⟨gg, 0, none⟩) (L.length + 1) cap4)).heap.size := by have := hgrow.size; simp; omega
        have HPC2 := Lib.hid hpc
        have HWF := Lib.hid hwf
        have HRF := Lib.hid hrf
        clear hpc hwf hrf hWa bWa sWa hgrow hown1 hat hlt4 f1 f2
        go_wp2_with fail
        go_roundw
        case rel => exact ⟨i + 1, a9, k9, _, by omega, by rw [HFS.out, HLN.out], by go_num, hsz4, HWF, by rw [HFS.out]; exact HPC2, HRF⟩
        case measure => simp [intOf]; omega
end Go.Proofs.YtepfnnhmplaocaaDoor
