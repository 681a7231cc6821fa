/- The program's parts of a region: partsOf. Conditions: the rectangles' cells are in memory; they are a region; the tables are in memory. -/
import Derived.Test.YtepfnnhmplaocaaDoorCpN
import Derived.Test.YtepfnnhmplaocaaDoorQT
import Derived.Test.YtepfnnhmplaocaaDoorCpM
import Derived.Test.YtepfnnhmplaocaaDoorCpD
import Derived.Test.YtepfnnhmplaocaaDoorQD
import Derived.Test.YtepfnnhmplaocaaDoorQP
import Derived.Test.YtepfnnhmplaocaaDoorQI
import Derived.Maps.AppendAt
namespace Go.Proofs.YtepfnnhmplaocaaDoor
open Go.RowKit
set_option linter.unusedVariables false
set_option linter.unusedSimpArgs false
attribute [local go_sem ↓] Go.wp_at_zero Go.wp_at_succ

theorem own_rowC {w : World} {B E sz n : Nat} {v : Value} {xs : List Value} (h : w.ownsRow B E sz v n xs) {b : Nat} (hb : v.ownBlock = some b) : B ≤ b ∧ b < w.heap.size ∧ ∃ cur, w.heap[b]? = some (.cells cur E (0, 0)) := by
  have hl := h.lt b hb
  rcases h.2 with ⟨rfl, _⟩ | ⟨g, cap, cur, rfl, _, h3, _⟩
  · simp [Value.ownBlock] at hb
  · have e : g = b := (by simpa [Value.ownBlock] using hb)
    subst e
    exact ⟨hl.1, hl.2, cur, h3⟩
theorem own_types {w : World} {B B' E E' sz sz' n n' : Nat} {v v' : Value} {xs xs' : List Value} (h : w.ownsRow B E sz v n xs) (h' : w.ownsRow B' E' sz' v' n' xs') (hE : E ≠ E') {b : Nat} (hb : v.ownBlock = some b) : v'.ownBlock ≠ some b := fun hb' => by
  obtain ⟨_, _, cur, h1⟩ := own_rowC h hb
  obtain ⟨_, _, cur', h2⟩ := own_rowC h' hb'
  rw [h1] at h2
  have := Option.some.inj h2
  injection this with _ e2
  exact hE e2
theorem own_sl {w : World} {B E sz n : Nat} {v : Value} {xs : List Value} (h : w.ownsRow B E sz v n xs) : ∃ a c, v = .slice a n c ∧ n ≤ c := by
  rcases h.2 with ⟨rfl, rfl⟩ | ⟨g, cap, cur, rfl, _, _, h4, _⟩
  · exact ⟨none, 0, rfl, Nat.le_refl _⟩
  · exact ⟨_, cap, rfl, h4⟩
theorem own_moved {W W' : World} {base e sz n : Nat} {v : Value} {xs : List Value} (h : W.ownsRow base e sz v n xs) (hk : ∀ g, v.ownBlock = some g → W'.heap[g]? = W.heap[g]?) : W'.ownsRow base e sz v n xs := by
  refine ⟨h.1, ?_⟩
  rcases h.2 with h' | ⟨g, cap, cur, e1, e2, e3, e4⟩
  · exact .inl h'
  · exact .inr ⟨g, cap, cur, e1, e2, (hk g (by rw [e1]; rfl)).trans e3, e4⟩
/-- The roots found so far, and the pieces that their nodes hold. -/
structure PcS (B5 : Nat) (P Q R S : Nat → Int) (n : Nat) (N K : Nat → Nat) (i : Nat) (v0 : Value) (vP : Nat → Value) (w : World) : Prop where
  roots : w.ownsRow B5 111 1 v0 (fstsTo K i).length ((fstsTo K i).map fun j => .pointer (some ⟨N (K j), 0, none⟩))
  cell : ∀ r, r < n → K r = r → w.cell? ⟨N r, 1, none⟩ = some (vP r) ∧ w.frozen? ⟨N r, 1, none⟩ = false
  row : ∀ r, r < n → K r = r → w.ownsRow B5 39 4 (vP r) (piecesTo P Q R S K r i).length (recCells (piecesTo P Q R S K r i))
  inj : ∀ r s, r < n → s < n → K r = r → K s = s → r ≠ s → ∀ b, (vP r).ownBlock = some b → (vP s).ownBlock ≠ some b
theorem pieces_nil {P Q R S : Nat → Int} {K : Nat → Nat} {r : Nat} : ∀ {m : Nat}, (piecesTo P Q R S K r m).length = 0 ↔ ∀ j, j < m → K j ≠ K r
  | 0 => by simp [piecesTo]
  | m + 1 => by
    rw [piecesTo]
    split
    · rename_i e
      constructor
      · intro h; simp at h
      · intro h; exact absurd e (h m (by omega))
    · rename_i e
      rw [pieces_nil]
      constructor
      · intro h j hj
        by_cases o : j = m
        · subst o; exact e
        · exact h j (by omega)
      · intro h j hj; exact h j (by omega)
theorem PcS.init {B5 : Nat} {P Q R S : Nat → Int} {n : Nat} {N K p : Nat → Nat} {M : Nat} {w : World} (h : FAt M w N n p) : PcS B5 P Q R S n N K 0 (.slice none 0 0) (fun _ => .slice none 0 0) w :=
  ⟨⟨rfl, .inl ⟨rfl, rfl⟩⟩, fun r hr _ => ⟨(h r hr).2.2.1, (h r hr).2.2.2.2.1⟩, fun r hr _ => ⟨rfl, .inl ⟨rfl, rfl⟩⟩, fun r s _ _ _ _ _ b hb => by simp [Value.ownBlock] at hb⟩
theorem PcS.below {B5 : Nat} {P Q R S : Nat → Int} {n : Nat} {N K : Nat → Nat} {i : Nat} {v0 : Value} {vP : Nat → Value} {w w' : World} (h : PcS B5 P Q R S n N K i v0 vP w) (hb : Below w.heap.size w w') : PcS B5 P Q R S n N K i v0 vP w' :=
  ⟨own_keep h.roots hb, fun r hr hk => ⟨keepC hb (h.cell r hr hk).1, (hb.frozen (p := ⟨N r, 1, none⟩) (World.block_lt_of_cell? w ⟨N r, 1, none⟩ (h.cell r hr hk).1)).trans (h.cell r hr hk).2⟩, fun r hr hk => own_keep (h.row r hr hk) hb, h.inj⟩
/-- Behind the append of a new root. -/
theorem PcS.root {B5 : Nat} {P Q R S : Nat → Int} {n : Nat} {N K : Nat → Nat} {i : Nat} {v0 v1 : Value} {vP : Nat → Value} {w w' : World} (h : PcS B5 P Q R S n N K i v0 vP w) (hg : w.grownBy w' v0.ownBlock) (hN : ∀ r, r < n → N r < B5)
    (hr : w'.ownsRow B5 111 1 v1 ((fstsTo K i).length + 1) (((fstsTo K i).map fun j => Value.pointer (some ⟨N (K j), 0, none⟩)) ++ [.pointer (some ⟨N (K i), 0, none⟩)])) :
    w'.ownsRow B5 111 1 v1 (fstsTo K i ++ [i]).length ((fstsTo K i ++ [i]).map fun j => .pointer (some ⟨N (K j), 0, none⟩)) ∧
    (∀ r, r < n → K r = r → w'.cell? ⟨N r, 1, none⟩ = some (vP r) ∧ w'.frozen? ⟨N r, 1, none⟩ = false) ∧
    (∀ r, r < n → K r = r → w'.ownsRow B5 39 4 (vP r) (piecesTo P Q R S K r i).length (recCells (piecesTo P Q R S K r i))) := by
  refine ⟨?_, fun r hr' hk => ?_, fun r hr' hk => ?_⟩
  · rw [List.length_append, List.length_singleton, List.map_append]; exact hr
  · have hlt := World.block_lt_of_cell? w ⟨N r, 1, none⟩ (h.cell r hr' hk).1
    have hne : some (N r) ≠ v0.ownBlock := fun e => by
      have := (h.roots.lt (N r) e.symm).1
      have := hN r hr'
      omega
    exact ⟨hg.cell (h.cell r hr' hk).1 hne, (World.frozen?_of_block (a := ⟨N r, 1, none⟩) (hg.block (N r) hlt hne)).trans (h.cell r hr' hk).2⟩
  · refine own_moved (h.row r hr' hk) fun b hb => hg.block b ((h.row r hr' hk).lt b hb).2 fun e => ?_
    exact own_types (h.row r hr' hk) h.roots (by decide) hb e.symm
/-- Behind the append of a piece and its store. -/
theorem PcS.piece {B5 : Nat} {P Q R S : Nat → Int} {n : Nat} {N K : Nat → Nat} {i : Nat} {v0 : Value} {vP : Nat → Value} {w w' : World} {v1 : Value} {L : List Nat} (hL : L = fstsTo K (i + 1)) (hin : i < n) (hKK : K (K i) = K i) (hKn : K i < n)
    (hro : w.ownsRow B5 111 1 v0 L.length (L.map fun j => .pointer (some ⟨N (K j), 0, none⟩)))
    (hce : ∀ r, r < n → K r = r → w.cell? ⟨N r, 1, none⟩ = some (vP r) ∧ w.frozen? ⟨N r, 1, none⟩ = false)
    (hrw : ∀ r, r < n → K r = r → w.ownsRow B5 39 4 (vP r) (piecesTo P Q R S K r i).length (recCells (piecesTo P Q R S K r i)))
    (hinj : ∀ r s, r < n → s < n → K r = r → K s = s → r ≠ s → ∀ b, (vP r).ownBlock = some b → (vP s).ownBlock ≠ some b)
    (hN : ∀ r, r < n → N r < B5) (hNi : InjN N n)
    (hg : w.grownBy w' (vP (K i)).ownBlock) (hr : w'.ownsRow B5 39 4 v1 ((piecesTo P Q R S K (K i) i).length + 1) (recCells (piecesTo P Q R S K (K i) i) ++ r4cells ⟨P i, Q i, R i, S i⟩))
    (hat : v1.ownBlock = (vP (K i)).ownBlock ∨ v1.ownBlock = some w.heap.size) (hB5 : B5 ≤ w.heap.size) :
    PcS B5 P Q R S n N K (i + 1) v0 (fun r => if r = K i then v1 else vP r) (w'.setCell ⟨N (K i), 1, none⟩ v1) := by
  have hset : ∀ b, B5 ≤ b → (w'.setCell ⟨N (K i), 1, none⟩ v1).heap[b]? = w'.heap[b]? := fun b hb => Below.heap_setCell _ _ _ _ (by have := hN (K i) hKn; show b ≠ N (K i); omega)
  have hpe : piecesTo P Q R S K (K i) (i + 1) = piecesTo P Q R S K (K i) i ++ [⟨P i, Q i, R i, S i⟩] := by rw [piecesTo, if_pos hKK.symm]
  have hpn : ∀ r, K r = r → r ≠ K i → piecesTo P Q R S K r (i + 1) = piecesTo P Q R S K r i := fun r hk hne => by rw [piecesTo, if_neg (by rw [hk]; exact fun e => hne e.symm)]
  have hold : ∀ r, r < n → K r = r → r ≠ K i → ∀ b, (vP r).ownBlock = some b → some b ≠ (vP (K i)).ownBlock := fun r hr' hk hne b hb e => hinj r (K i) hr' hKn hk hKK hne b hb e.symm
  refine ⟨?_, fun r hr' hk => ?_, fun r hr' hk => ?_, fun r s hr' hs' hk hks hne b hb => ?_⟩
  · rw [← hL]
    refine own_moved hro fun b hb => (hset b (hro.lt b hb).1).trans (hg.block b (hro.lt b hb).2 fun e => ?_)
    exact own_types hro (hrw (K i) hKn hKK) (by decide) hb e.symm
  · have hlt := World.block_lt_of_cell? w ⟨N r, 1, none⟩ (hce r hr' hk).1
    have hne : some (N r) ≠ (vP (K i)).ownBlock := fun e => by
      have := ((hrw (K i) hKn hKK).lt (N r) e.symm).1
      have := hN r hr'
      omega
    have c1 := hg.cell (hce r hr' hk).1 hne
    have c2 := (World.frozen?_of_block (a := ⟨N r, 1, none⟩) (hg.block (N r) hlt hne)).trans (hce r hr' hk).2
    refine ⟨?_, by simpa using c2⟩
    by_cases e : r = K i
    · subst e
      rw [if_pos rfl]
      exact World.cell?_setCell_same _ _ _ c1
    · rw [if_neg e]
      exact keepS c1 (fun k => e (hNi _ _ hr' hKn k.symm)) _
  · by_cases e : r = K i
    · subst e
      try dsimp only
      rw [if_pos rfl, hpe, List.length_append, List.length_singleton, recCells_snoc]
      exact own_moved hr fun b hb => hset b (hr.lt b hb).1
    · try dsimp only
      rw [if_neg e, hpn r hk e]
      exact own_moved (hrw r hr' hk) fun b hb => (hset b ((hrw r hr' hk).lt b hb).1).trans (hg.block b ((hrw r hr' hk).lt b hb).2 (hold r hr' hk e b hb))
  · try dsimp only at hb ⊢
    by_cases e : r = K i
    · rw [if_pos e] at hb
      rw [if_neg (fun k => hne (e.trans k.symm))]
      intro hs
      have hsl := ((hrw s hs' hks).lt b hs).2
      rcases hat with hat | hat
      · rw [hat] at hb
        exact hinj (K i) s hKn hs' hKK hks (fun k => hne (e.trans k)) b hb hs
      · rw [hat] at hb
        have := Option.some.inj hb
        omega
    · rw [if_neg e] at hb
      by_cases e2 : s = K i
      · rw [if_pos e2]
        intro hs
        have hbl := ((hrw r hr' hk).lt b hb).2
        rcases hat with hat | hat
        · rw [hat] at hs
          exact hinj r (K i) hr' hKn hk hKK e b hb hs
        · rw [hat] at hs
          have := Option.some.inj hs
          omega
      · rw [if_neg e2]
        exact hinj r s hr' hs' hk hks hne b hb
theorem pieces_cong {P Q R S : Nat → Int} {K : Nat → Nat} {a b : Nat} (h : K a = K b) : ∀ m, piecesTo P Q R S K a m = piecesTo P Q R S K b m
  | 0 => rfl
  | m + 1 => by rw [piecesTo, piecesTo, pieces_cong h m, h]
/-- A list of lists in memory of its own: the outer row, the lists' rows g, all apart. -/
structure LsOwn (B : Nat) (w : World) (v : Value) (LL : List (List R4)) (V : List Value) (g : Nat → Nat) : Prop where
  row : w.ownsRow B 26 1 v LL.length V
  ne : ∀ l, l ∈ LL → 0 < l.length
  each : ∀ (i : Nat) (l : List R4), LL[i]? = some l → ∃ c, V[i]? = some (.slice (some ⟨g i, 0, none⟩) l.length c) ∧ l.length ≤ c ∧ (B ≤ g i ∧ g i < w.heap.size) ∧ RowR w (g i) l.length (pA l) (pB l) (pC l) (pD l) ∧ v.ownBlock ≠ some (g i)
  inj : ∀ i j : Nat, i < LL.length → j < LL.length → i ≠ j → g i ≠ g j
theorem LsOwn.nil (B : Nat) (w : World) : LsOwn B w (.slice none 0 0) [] [] (fun _ => 0) := ⟨⟨rfl, .inl ⟨rfl, rfl⟩⟩, fun l hl => by simp at hl, fun i l hl => by simp at hl, fun i j hi => by simp at hi⟩
theorem LsOwn.below {B : Nat} {w w' : World} {v : Value} {LL : List (List R4)} {V : List Value} {g : Nat → Nat} (h : LsOwn B w v LL V g) (hb : Below w.heap.size w w') : LsOwn B w' v LL V g :=
  ⟨own_keep h.row hb, h.ne, fun i l hl => by
    obtain ⟨c, h1, h2, h3, h4, h5⟩ := h.each i l hl
    exact ⟨c, h1, h2, ⟨h3.1, Nat.lt_of_lt_of_le h3.2 hb.size⟩, h4.below hb h3.2, h5⟩, h.inj⟩
theorem LsOwn.mono {B C : Nat} {w : World} {v : Value} {LL : List (List R4)} {V : List Value} {g : Nat → Nat} (h : LsOwn B w v LL V g) (hC : C ≤ B) : LsOwn C w v LL V g :=
  ⟨⟨h.row.1, by rcases h.row.2 with h' | ⟨x, cap, cur, e1, e2, e3⟩; (exact .inl h'); (exact .inr ⟨x, cap, cur, e1, Nat.le_trans hC e2, e3⟩)⟩, h.ne, fun i l hl => by
    obtain ⟨c, h1, h2, h3, h4, h5⟩ := h.each i l hl
    exact ⟨c, h1, h2, ⟨Nat.le_trans hC h3.1, h3.2⟩, h4, h5⟩, h.inj⟩
theorem RowR.grown {w w' : World} {g n : Nat} {P Q R S : Nat → Int} {row : Option Nat} (h : RowR w g n P Q R S) (hg : w.grownBy w' row) (hlt : g < w.heap.size) (hne : some g ≠ row) : RowR w' g n P Q R S := fun k hk => by
  obtain ⟨⟨c0, c1, c2, c3⟩, f0, f1, f2, f3⟩ := h k hk
  have fr : ∀ o, w'.frozen? ⟨g, o, none⟩ = w.frozen? ⟨g, o, none⟩ := fun o => World.frozen?_of_block (a := ⟨g, o, none⟩) (hg.block g hlt hne)
  exact ⟨⟨hg.cell c0 hne, hg.cell c1 hne, hg.cell c2 hne, hg.cell c3 hne⟩, (fr _).trans f0, (fr _).trans f1, (fr _).trans f2, (fr _).trans f3⟩
/-- Behind the append of one list more. -/
theorem LsOwn.snoc {B : Nat} {w w' : World} {v v' : Value} {LL : List (List R4)} {V : List Value} {g : Nat → Nat} (h : LsOwn B w v LL V g) {l : List R4} {x c : Nat} (hl : 0 < l.length) (hc : l.length ≤ c) (hx : B ≤ x ∧ x < w.heap.size) (hr : RowR w x l.length (pA l) (pB l) (pC l) (pD l))
    (hv : v.ownBlock ≠ some x) (hnew : ∀ i, i < LL.length → g i ≠ x) (hg : w.grownBy w' v.ownBlock) (ho : w'.ownsRow B 26 1 v' (LL.length + 1) (V ++ [.slice (some ⟨x, 0, none⟩) l.length c])) (hat : v'.ownBlock = v.ownBlock ∨ v'.ownBlock = some w.heap.size) :
    LsOwn B w' v' (LL ++ [l]) (V ++ [.slice (some ⟨x, 0, none⟩) l.length c]) (fun i => if i = LL.length then x else g i) := by
  have hVl : V.length = LL.length := by have := h.row.1; omega
  have sep : ∀ y, y < w.heap.size → v.ownBlock ≠ some y → v'.ownBlock ≠ some y := fun y hy hne => by
    rcases hat with hat | hat
    · rw [hat]; exact hne
    · rw [hat]; exact fun e => by have := Option.some.inj e; omega
  refine ⟨by rw [List.length_append, List.length_singleton]; exact ho, fun m hm => ?_, fun i m hm => ?_, fun i j hi hj hij => ?_⟩
  · rcases List.mem_append.1 hm with hm | hm
    · exact h.ne m hm
    · rw [List.mem_singleton.1 hm]; exact hl
  · by_cases e : i = LL.length
    · subst e
      rw [List.getElem?_append_right (Nat.le_refl _), Nat.sub_self] at hm
      have hm' : l = m := by simpa using hm
      subst hm'
      refine ⟨c, ?_, hc, ⟨by rw [if_pos rfl]; exact hx.1, by rw [if_pos rfl]; exact Nat.lt_of_lt_of_le hx.2 hg.size⟩, ?_, ?_⟩
      · rw [if_pos rfl, List.getElem?_append_right (by omega), hVl, Nat.sub_self]; rfl
      · rw [if_pos rfl]; exact hr.grown hg hx.2 (fun e => hv e.symm)
      · rw [if_pos rfl]; exact sep x hx.2 hv
    · have hi : i < LL.length := by
        have := (List.getElem?_eq_some_iff.1 hm).1
        rw [List.length_append, List.length_singleton] at this
        omega
      rw [List.getElem?_append_left hi] at hm
      obtain ⟨c', h1, h2, h3, h4, h5⟩ := h.each i m hm
      try dsimp only
      rw [if_neg e]
      exact ⟨c', by rw [List.getElem?_append_left (by omega)]; exact h1, h2, ⟨h3.1, Nat.lt_of_lt_of_le h3.2 hg.size⟩, h4.grown hg h3.2 (fun e => h5 e.symm), sep _ h3.2 h5⟩
  · rw [List.length_append, List.length_singleton] at hi hj
    by_cases e1 : i = LL.length
    · rw [if_pos e1, if_neg (by omega)]; exact fun e => hnew j (by omega) e.symm
    · rw [if_neg e1]
      by_cases e2 : j = LL.length
      · rw [if_pos e2]; exact hnew i (by omega)
      · rw [if_neg e2]; exact h.inj i j (by omega) (by omega) hij
theorem part_ne {f : Nat → Bool} {wide : Bool} {x y : Int} (h : hasB f x y = true) : 0 < (canonL (partF f wide x y)).length := by
  obtain ⟨r, hr, _⟩ := has_canonL.1 (has_part.2 (Conn.start (wide := wide) h))
  exact List.length_pos_of_mem hr
/-- The parts by first rectangles are the parts by first cells. -/
theorem fsts_parts {P Q R S : Nat → Int} {n : Nat} {wide : Bool} {K : Nat → Nat} (hK : RootsOK P Q R S n wide K) (h : okR P Q R S n = true) :
    (fstsTo K n).map (fun j => canonL (partF (covF P Q R S n) wide (P j) (Q j))) = cmpL (covF P Q R S n) wide := by
  unfold cmpL
  rw [← fsts_starts hK h, List.map_map]
  apply List.map_congr_left
  intro j hj
  have hjn := (fstsTo_mem.1 hj).1
  have hc := inI_chip h hjn (corner_in h hjn)
  simp only [Function.comp]
  rw [(cxN_at hc).1, (cxN_at hc).2]
/-- A call that hands back a list of lists of its own. -/
def LLOwn (B : Nat) (LL : List (List R4)) (e : Ending) (w : World) : Prop := ∃ (a : Option Addr) (c : Nat) (V : List Value) (g : Nat → Nat), e = .returned (.slice a LL.length c) ∧ LL.length ≤ c ∧ LsOwn B w (.slice a LL.length c) LL V g
end Go.Proofs.YtepfnnhmplaocaaDoor
