/-
  Slices of terms in memory: how they read, and slices of terms that a call owns. Plain lemmas. No conditions.
-/
import Derived.Test.YtkfpacjncpifgaaTerms
import Derived.Deep.MidRow
namespace Go.Proofs.Ytkfpacjncpifgaa
open Go.RowKit

/-- The slice (A, n) reads as the terms ts. -/
def TS (w : World) (A : Option Addr) (n : Nat) (ts : List Tm) : Prop :=
  ts.length = n ∧ (0 < n → ∃ b o, A = some ⟨b, o, none⟩ ∧ b < w.heap.size ∧ ∀ k, k < n → ∃ A' n' c', w.cell? ⟨b, o + k * 2, none⟩ = some (.slice A' n' c') ∧
    w.cell? ⟨b, o + k * 2 + 1, none⟩ = some (.int .i64 (tm ts k).2) ∧ SI w A' n' (tm ts k).1 ∧ n' ≤ c' ∧ (A' = none → n' = 0 ∧ c' = 0))
section
variable {w w' : World} {A : Option Addr} {n : Nat} {ts : List Tm}
theorem TS.nil (w : World) (A : Option Addr) : TS w A 0 [] := ⟨rfl, fun h => absurd h (by omega)⟩
theorem TS.at_ (h : TS w A n ts) {k : Nat} (hk : k < n) : ∃ b o A' n' c', A = some ⟨b, o, none⟩ ∧ b < w.heap.size ∧ w.cell? ⟨b, o + k * 2, none⟩ = some (.slice A' n' c') ∧
    w.cell? ⟨b, o + k * 2 + 1, none⟩ = some (.int .i64 (tm ts k).2) ∧ SI w A' n' (tm ts k).1 ∧ n' ≤ c' ∧ (A' = none → n' = 0 ∧ c' = 0) := by
  obtain ⟨b, o, e, hb, hc⟩ := h.2 (by omega)
  obtain ⟨A', n', c', h1⟩ := hc k hk
  exact ⟨b, o, A', n', c', e, hb, h1⟩
theorem TS.below {B : Nat} (h : TS w A n ts) (hb : Below B w w') (hB : w.heap.size ≤ B) : TS w' A n ts :=
  ⟨h.1, fun hn => by
    obtain ⟨b, o, e, hl, hc⟩ := h.2 hn
    have hs := hb.size
    refine ⟨b, o, e, by omega, fun k hk => ?_⟩
    obtain ⟨A', n', c', h1, h2, h3, h4⟩ := hc k hk
    exact ⟨A', n', c', (hb.cell (p := ⟨b, o + k * 2, none⟩) (by show b < B; omega)).trans h1, (hb.cell (p := ⟨b, o + k * 2 + 1, none⟩) (by show b < B; omega)).trans h2, h3.below hb hB, h4⟩⟩
theorem TS.drewN (h : TS w A n ts) (k : Nat) : TS (w.drewN k) A n ts := h
theorem TS.drawn (h : TS w A n ts) (hd : Drawn w w') : TS w' A n ts := by obtain ⟨m, rfl⟩ := hd; exact h
theorem TS.alloc (h : TS w A n ts) (o : Obj) : TS (w.alloc o) A n ts := h.below ((Below.refl w.heap.size w).alloc (Nat.le_refl _) o) (Nat.le_refl _)
end

/-- A list of pairs of cells. -/
def cells2 (n : Nat) (f : Nat → Value × Value) : List Value := (List.range (n * 2)).map fun j => if j % 2 = 0 then (f (j / 2)).1 else (f (j / 2)).2
theorem cells2_len (n : Nat) (f : Nat → Value × Value) : (cells2 n f).length = n * 2 := by simp [cells2]
theorem cells2_get {n : Nat} (f : Nat → Value × Value) {j : Nat} (h : j < n * 2) : (cells2 n f)[j]? = some (if j % 2 = 0 then (f (j / 2)).1 else (f (j / 2)).2) := by
  simp [cells2, h]
theorem cells2_get0 {n : Nat} (f : Nat → Value × Value) {k : Nat} (h : k < n) : (cells2 n f)[k * 2]? = some (f k).1 := by
  rw [cells2_get f (by omega), if_pos (by omega), show k * 2 / 2 = k by omega]
theorem cells2_get1 {n : Nat} (f : Nat → Value × Value) {k : Nat} (h : k < n) : (cells2 n f)[k * 2 + 1]? = some (f k).2 := by
  rw [cells2_get f (by omega), if_neg (by omega), show (k * 2 + 1) / 2 = k by omega]
theorem cells2_congr {n : Nat} {f g : Nat → Value × Value} (h : ∀ k, k < n → f k = g k) : cells2 n f = cells2 n g := by
  apply List.map_congr_left
  intro j hj
  have := List.mem_range.1 hj
  rw [h (j / 2) (by omega)]
theorem cells2_set0 {n : Nat} (f : Nat → Value × Value) {k : Nat} (_h : k < n) (v : Value) : (cells2 n f).set (k * 2) v = cells2 n (fun j => if j = k then (v, (f j).2) else f j) := by
  apply List.ext_getElem?
  intro j
  by_cases hj : j < n * 2
  · rw [cells2_get _ hj]
    by_cases e : j = k * 2
    · subst e
      rw [List.getElem?_set_self (by rw [cells2_len]; omega), if_pos (by omega), show k * 2 / 2 = k by omega, if_pos rfl]
    · rw [List.getElem?_set_ne (by omega), cells2_get _ hj]
      by_cases e2 : j / 2 = k
      · rw [if_neg (by omega), if_neg (by omega), if_pos e2]
      · rw [if_neg e2]
  · rw [List.getElem?_eq_none (by simp [cells2_len]; omega), List.getElem?_eq_none (by simp [cells2_len]; omega)]
theorem cells2_set1 {n : Nat} (f : Nat → Value × Value) {k : Nat} (_h : k < n) (v : Value) : (cells2 n f).set (k * 2 + 1) v = cells2 n (fun j => if j = k then ((f j).1, v) else f j) := by
  apply List.ext_getElem?
  intro j
  by_cases hj : j < n * 2
  · rw [cells2_get _ hj]
    by_cases e : j = k * 2 + 1
    · subst e
      rw [List.getElem?_set_self (by rw [cells2_len]; omega), if_neg (by omega), show (k * 2 + 1) / 2 = k by omega, if_pos rfl]
    · rw [List.getElem?_set_ne (by omega), cells2_get _ hj]
      by_cases e2 : j / 2 = k
      · rw [if_pos (by omega), if_pos (by omega), if_pos e2]
      · rw [if_neg e2]
  · rw [List.getElem?_eq_none (by simp [cells2_len]; omega), List.getElem?_eq_none (by simp [cells2_len]; omega)]
theorem cells2_app (n : Nat) (f : Nat → Value × Value) (a b : Value) : cells2 n f ++ [a, b] = cells2 (n + 1) (fun j => if j = n then (a, b) else f j) := by
  apply List.ext_getElem?
  intro j
  by_cases hj : j < n * 2
  · rw [List.getElem?_append_left (by rw [cells2_len]; exact hj), cells2_get _ hj, cells2_get _ (by omega), if_neg (show ¬ j / 2 = n by omega)]
  · rw [List.getElem?_append_right (by rw [cells2_len]; omega), cells2_len]
    by_cases h1 : j = n * 2
    · subst h1
      rw [cells2_get _ (by omega), if_pos (by omega), if_pos (by omega)]; simp
    · by_cases h2 : j = n * 2 + 1
      · subst h2
        rw [cells2_get _ (by omega), if_neg (by omega), if_pos (by omega)]; simp
      · rw [List.getElem?_eq_none (by simp; omega), List.getElem?_eq_none (by simp [cells2_len]; omega)]

abbrev Sv := Option Addr × Nat × Nat
def sv (e : Sv) : Value := .slice e.1 e.2.1 e.2.2
/-- The slice (A, n, c) holds the terms ts: its block, and a block for the exponents of each term, all the call's own between lo and hi, no two of them one. -/
def OwnT (w : World) (lo hi : Nat) (A : Option Addr) (n c : Nat) (ts : List Tm) : Prop :=
  ∃ E : Nat → Sv, ts.length = n ∧ w.ownsRow lo 68 2 (.slice A n c) n (cells2 n fun k => (sv (E k), .int .i64 (tm ts k).2)) ∧ (∀ k, (Value.slice A n c).ownBlock = some k → k < hi) ∧
    (∀ j, j < n → Own w lo hi (E j).1 (E j).2.1 (E j).2.2 (tm ts j).1) ∧ (∀ j g, j < n → (sv (E j)).ownBlock = some g → (Value.slice A n c).ownBlock ≠ some g) ∧
    (∀ i j g, i < j → j < n → (sv (E i)).ownBlock = some g → (sv (E j)).ownBlock ≠ some g)
section
variable {w w' : World} {lo hi n c : Nat} {A : Option Addr} {ts : List Tm}
theorem OwnT.len (h : OwnT w lo hi A n c ts) : ts.length = n := by obtain ⟨_, h1, _⟩ := h; exact h1
theorem OwnT.nil (w : World) (lo hi : Nat) : OwnT w lo hi none 0 0 [] :=
  ⟨fun _ => (none, 0, 0), rfl, by simpa [cells2] using World.ownsRow_nil _ _ _ _, fun k hk => by simp [Value.ownBlock] at hk, fun j hj => absurd hj (by omega), fun j g hj => absurd hj (by omega), fun i j g _ hj => absurd hj (by omega)⟩
theorem OwnT.place (h : OwnT w lo hi A n c ts) (hn : 0 < n) : ∃ g, A = some ⟨g, 0, none⟩ ∧ lo ≤ g ∧ g < hi := by
  obtain ⟨E, _, ho, hh, _⟩ := h
  obtain ⟨g, cap, e, h1, _⟩ := ho.form hn
  have hA : A = some ⟨g, 0, none⟩ := by injection e
  subst hA
  exact ⟨g, rfl, h1, hh g rfl⟩
theorem Own.nilcap {xs : List Int} (h : Own w lo hi none n c xs) : n = 0 ∧ c = 0 := by
  rcases h.1.2 with ⟨e, h0⟩ | ⟨g, cap, cur, e, _⟩
  · injection e with _ _ e3; exact ⟨h0, e3⟩
  · injection e with e1; cases e1
theorem OwnT.rd (h : OwnT w lo hi A n c ts) : TS w A n ts := by
  refine ⟨h.len, fun hn => ?_⟩
  obtain ⟨g, rfl, _, _⟩ := h.place hn
  obtain ⟨E, hl, ho, hh, he, _⟩ := h
  refine ⟨g, 0, rfl, ?_, fun k hk => ?_⟩
  · obtain ⟨g', cap, e, _, h2⟩ := ho.form hn
    injection e with e1; injection e1 with e1; injection e1 with e1
    subst e1; exact h2
  · refine ⟨(E k).1, (E k).2.1, (E k).2.2, ?_, ?_, (he k hk).si, (he k hk).cap, ?_⟩
    · rw [Nat.zero_add, ho.cellAt (k * 2) (by omega), cells2_get0 _ hk]; rfl
    · rw [Nat.zero_add, ho.cellAt (k * 2 + 1) (by omega), cells2_get1 _ hk]
    · intro e
      have := he k hk
      rw [e] at this
      exact this.nilcap
theorem OwnT.si (h : OwnT w lo hi A n c ts) : TS w A n ts := h.rd
theorem OwnT.below {B : Nat} (h : OwnT w lo hi A n c ts) (hb : Below B w w') (hB : hi ≤ B) : OwnT w' lo hi A n c ts := by
  obtain ⟨E, h1, h2, h3, h4, h5, h6⟩ := h
  refine ⟨E, h1, ⟨h2.1, ?_⟩, h3, fun j hj => (h4 j hj).below hb hB, h5, h6⟩
  rcases h2.2 with hn | ⟨g, cap, cur, e, hl, hg, rest⟩
  · exact .inl hn
  · have hlt := h3 g (by rw [e]; rfl)
    exact .inr ⟨g, cap, cur, e, hl, (hb.block g (by omega)).trans hg, rest⟩
theorem OwnT.drawn (h : OwnT w lo hi A n c ts) (hd : Drawn w w') : OwnT w' lo hi A n c ts := h.below (hd.below hi) (Nat.le_refl _)
theorem OwnT.cap (h : OwnT w lo hi A n c ts) : n ≤ c := by
  obtain ⟨E, _, h2, _⟩ := h
  rcases h2.2 with ⟨e, h0⟩ | ⟨g, cap, cur, e, _, _, hc, _⟩
  · omega
  · injection e with _ _ e3; omega
end
/-- Nothing outside lo .. hi was changed. -/
def Within (lo hi : Nat) (w w' : World) : Prop := w'.os = w.os ∧ w'.tape = w.tape ∧ w'.output = w.output ∧ w.heap.size ≤ w'.heap.size ∧ ∀ k, k < w.heap.size → k < lo ∨ hi ≤ k → w'.heap[k]? = w.heap[k]?
theorem Within.refl (lo hi : Nat) (w : World) : Within lo hi w w := ⟨rfl, rfl, rfl, Nat.le_refl _, fun _ _ _ => rfl⟩
theorem Within.trans {lo hi : Nat} {w w' w'' : World} (h : Within lo hi w w') (h' : Within lo hi w' w'') : Within lo hi w w'' :=
  ⟨h'.1.trans h.1, h'.2.1.trans h.2.1, h'.2.2.1.trans h.2.2.1, Nat.le_trans h.2.2.2.1 h'.2.2.2.1, fun k h0 hk => (h'.2.2.2.2 k (Nat.lt_of_lt_of_le h0 h.2.2.2.1) hk).trans (h.2.2.2.2 k h0 hk)⟩
theorem Within.size {lo hi : Nat} {w w' : World} (h : Within lo hi w w') : w.heap.size ≤ w'.heap.size := h.2.2.2.1
theorem Within.below {lo hi B : Nat} {w w' : World} (h : Within lo hi w w') (hB : B ≤ lo) (hB' : B ≤ w.heap.size) : Below B w w' :=
  ⟨h.1, h.2.1, h.2.2.1, h.2.2.2.1, fun k hk => h.2.2.2.2 k (by omega) (.inl (by omega))⟩
theorem Within.of_grown {lo hi : Nat} {w w' : World} {row : Option Nat} (hg : w.grownBy w' row) (hr : ∀ g, row = some g → lo ≤ g ∧ g < hi) : Within lo hi w w' :=
  ⟨hg.os, hg.tape, hg.output, hg.size, fun k h0 hk => hg.block k h0 (fun e => by have := hr k e.symm; omega)⟩
theorem Within.of_drawn {lo hi : Nat} {w w' : World} (h : Drawn w w') : Within lo hi w w' := by obtain ⟨m, rfl⟩ := h; exact ⟨rfl, rfl, rfl, Nat.le_refl _, fun _ _ _ => rfl⟩
theorem Own.within {w w' : World} {lo hi n c lo' hi' : Nat} {A : Option Addr} {xs : List Int} (h : Own w lo hi A n c xs) (hw : Within lo' hi' w w') (hd : hi ≤ lo' ∨ hi' ≤ lo) : Own w' lo hi A n c xs := by
  refine ⟨⟨h.1.1, ?_⟩, h.2⟩
  rcases h.1.2 with hn | ⟨g, cap, cur, e, hl, hg, rest⟩
  · exact .inl hn
  · have hlt := h.2 g (by rw [e]; rfl)
    have hsz := (h.1.lt g (by rw [e]; rfl)).2
    exact .inr ⟨g, cap, cur, e, hl, (hw.2.2.2.2 g hsz (by omega)).trans hg, rest⟩
theorem OwnT.within {w w' : World} {lo hi n c lo' hi' : Nat} {A : Option Addr} {ts : List Tm} (h : OwnT w lo hi A n c ts) (hw : Within lo' hi' w w') (hd : hi ≤ lo' ∨ hi' ≤ lo) : OwnT w' lo hi A n c ts := by
  obtain ⟨E, h1, h2, h3, h4, h5, h6⟩ := h
  refine ⟨E, h1, ⟨h2.1, ?_⟩, h3, fun j hj => (h4 j hj).within hw hd, h5, h6⟩
  rcases h2.2 with hn | ⟨g, cap, cur, e, hl, hg, rest⟩
  · exact .inl hn
  · have hlt := h3 g (by rw [e]; rfl)
    have hsz := (h2.lt g (by rw [e]; rfl)).2
    exact .inr ⟨g, cap, cur, e, hl, (hw.2.2.2.2 g hsz (by omega)).trans hg, rest⟩
/-- What a call that makes a slice of terms hands back. -/
def FreshT (w w' : World) (e : Ending) (ts : List Tm) : Prop :=
  ∃ A n c, e = .returned (.slice A n c) ∧ OwnT w' w.heap.size w'.heap.size A n c ts ∧ Below w.heap.size w w'

theorem Own.kept {w w' : World} {lo hi n c : Nat} {A : Option Addr} {xs : List Int} {row : Option Nat} (h : Own w lo hi A n c xs) (hg : w.grownBy w' row) (hne : ∀ g, (Value.slice A n c).ownBlock = some g → row ≠ some g) : Own w' lo hi A n c xs := by
  refine ⟨h.1.kept hg ?_, h.2⟩
  cases hb : (Value.slice A n c).ownBlock with
  | none => exact .inl rfl
  | some g => exact .inr fun e => hne g hb e.symm
theorem row_eq {w : World} {lo : Nat} {v : Value} {n : Nat} {xs ys : List Value} (h : w.ownsRow lo 68 2 v n xs) (e : xs = ys) : w.ownsRow lo 68 2 v n ys := e ▸ h
theorem tm_set {ts : List Tm} {k j : Nat} (hk : k < ts.length) (t : Tm) : tm (ts.set k t) j = if j = k then t else tm ts j := by
  unfold tm
  rw [List.getD_eq_getElem?_getD, List.getD_eq_getElem?_getD, List.getElem?_set]
  by_cases e : k = j
  · subst e; simp [hk]
  · rw [if_neg e, if_neg (fun h => e h.symm)]
/-- One term stored: its exponents lie in a newer block of the call's own. -/
theorem OwnT.put {w : World} {lo hi g n c : Nat} {ts : List Tm} (h : OwnT w lo hi (some ⟨g, 0, none⟩) n c ts) {k : Nat} (hk : k < n) {lo' hi' n' c' : Nat} {A' : Option Addr} {xs : List Int} (hx : Own w lo' hi' A' n' c' xs)
    (h1 : hi ≤ lo') (h2 : lo ≤ lo') (h3 : hi ≤ hi') (x : Int) :
    OwnT ((w.setCell ⟨g, k * 2, none⟩ (.slice A' n' c')).setCell ⟨g, k * 2 + 1, none⟩ (.int .i64 x)) lo hi' (some ⟨g, 0, none⟩) n c (ts.set k (xs, x)) ∧
      w.grownBy ((w.setCell ⟨g, k * 2, none⟩ (.slice A' n' c')).setCell ⟨g, k * 2 + 1, none⟩ (.int .i64 x)) (some g) := by
  obtain ⟨E, hl, ho, hh, he, hne, hdd⟩ := h
  have hgl := hh g rfl
  obtain ⟨o1, g1⟩ := ho.stored (k * 2) (.slice A' n' c')
  obtain ⟨o2, g2⟩ := o1.stored (k * 2 + 1) (.int .i64 x)
  have gg := g1.trans g2
  refine ⟨⟨fun j => if j = k then (A', n', c') else E j, by simpa using hl, ?_, fun b hb => by have := hh b hb; omega, fun j hj => ?_, fun j b hj hb => ?_, fun i j b hij hj hb => ?_⟩, gg⟩
  · rw [cells2_set0 _ hk, cells2_set1 _ hk] at o2
    refine row_eq o2 ?_
    apply cells2_congr
    intro j hj
    dsimp only
    rw [tm_set (by omega)]
    by_cases e : j = k
    · subst e; simp [sv]
    · simp [e]
  · dsimp only
    rw [tm_set (by omega)]
    by_cases e : j = k
    · rw [if_pos e, if_pos e]
      exact (hx.grown gg (fun b hb => .inl (by injection hb with hb; omega))).wide h2 (Nat.le_refl _)
    · rw [if_neg e, if_neg e]
      exact ((he j hj).kept gg (fun b hb => hne j b hj hb)).wide (Nat.le_refl _) h3
  · dsimp only at hb
    by_cases e : j = k
    · rw [if_pos e] at hb
      have := hx.lt b hb
      intro e2; injection e2 with e2; dsimp only at e2; omega
    · rw [if_neg e] at hb
      exact hne j b hj hb
  · dsimp only at hb ⊢
    by_cases e : i = k
    · rw [if_pos e] at hb
      rw [if_neg (by omega)]
      intro e2
      have := hx.lt b hb
      have := (he j hj).2 b e2
      omega
    · rw [if_neg e] at hb
      by_cases e' : j = k
      · rw [if_pos e']
        intro e2
        have := hx.lt b e2
        have := (he i (by omega)).2 b hb
        omega
      · rw [if_neg e']
        exact hdd i j b hij hj hb
/-- Only the number of a term stored. -/
theorem OwnT.put2 {w : World} {lo hi g n c : Nat} {ts : List Tm} (h : OwnT w lo hi (some ⟨g, 0, none⟩) n c ts) {k : Nat} (hk : k < n) (x : Int) :
    OwnT (w.setCell ⟨g, k * 2 + 1, none⟩ (.int .i64 x)) lo hi (some ⟨g, 0, none⟩) n c (ts.set k ((tm ts k).1, x)) ∧ w.grownBy (w.setCell ⟨g, k * 2 + 1, none⟩ (.int .i64 x)) (some g) := by
  obtain ⟨E, hl, ho, hh, he, hne, hdd⟩ := h
  obtain ⟨o2, gg⟩ := ho.stored (k * 2 + 1) (.int .i64 x)
  refine ⟨⟨E, by simpa using hl, ?_, hh, fun j hj => ?_, hne, hdd⟩, gg⟩
  · rw [cells2_set1 _ hk] at o2
    refine row_eq o2 ?_
    apply cells2_congr
    intro j hj
    dsimp only
    rw [tm_set (by omega)]
    by_cases e : j = k
    · subst e; simp
    · simp [e]
  · rw [tm_set (by omega)]
    have := (he j hj).kept gg (fun b hb => hne j b hj hb)
    by_cases e : j = k
    · subst e; rw [if_pos rfl]; exact this
    · rw [if_neg e]; exact this
/-- The exponents of one term, at its place. -/
theorem OwnT.exp {w : World} {lo hi g n c : Nat} {ts : List Tm} (h : OwnT w lo hi (some ⟨g, 0, none⟩) n c ts) {k : Nat} (hk : k < n) :
    ∃ A' n' c', w.cell? ⟨g, k * 2, none⟩ = some (.slice A' n' c') ∧ w.cell? ⟨g, k * 2 + 1, none⟩ = some (.int .i64 (tm ts k).2) ∧ (∀ j, w.frozen? ⟨g, j, none⟩ = false) ∧ Own w lo hi A' n' c' (tm ts k).1 ∧
      ∀ w' ys, Own w' lo hi A' n' c' ys → w.grownBy w' (Value.slice A' n' c').ownBlock → OwnT w' lo hi (some ⟨g, 0, none⟩) n c (ts.set k (ys, (tm ts k).2)) := by
  obtain ⟨E, hl, ho, hh, he, hne, hdd⟩ := h
  refine ⟨(E k).1, (E k).2.1, (E k).2.2, ?_, ?_, fun j => ho.frozenAt j, he k hk, ?_⟩
  · rw [ho.cellAt (k * 2) (by omega), cells2_get0 _ hk]; rfl
  · rw [ho.cellAt (k * 2 + 1) (by omega), cells2_get1 _ hk]
  · intro w' ys hy hg
    refine ⟨E, by simpa using hl, ?_, hh, fun j hj => ?_, hne, hdd⟩
    · have o2 := ho.kept hg (.inr fun e => hne k g hk e.symm rfl)
      refine row_eq o2 ?_
      apply cells2_congr
      intro j hj
      rw [tm_set (by omega)]
      by_cases e : j = k
      · subst e; simp
      · simp [e]
    · rw [tm_set (by omega)]
      by_cases e : j = k
      · subst e; rw [if_pos rfl]; exact hy
      · rw [if_neg e]
        refine (he j hj).kept hg (fun b hb e2 => ?_)
        rcases Nat.lt_or_ge j k with h | h
        · exact hdd j k b h hk hb e2
        · exact hdd k j b (by omega) hj e2 hb
def zeroT (n : Nat) : List Tm := List.replicate n ([], 0)
theorem zeroT_tm (n k : Nat) : tm (zeroT n) k = ([], 0) := by
  unfold tm zeroT
  by_cases h : k < n
  · simp [List.getD, h]
  · simp [List.getD, h]
theorem OwnT.zeros {w : World} {lo g n c : Nat} (h : w.ownsRow lo 68 2 (.slice (some ⟨g, 0, none⟩) n c) n (madeCells #[.slice none 0 0, .int .i64 0] (n * 2)).toList) (hg : g < w.heap.size) : OwnT w lo w.heap.size (some ⟨g, 0, none⟩) n c (zeroT n) := by
  refine ⟨fun _ => (none, 0, 0), by simp [zeroT], ?_, fun b hb => by simp [Value.ownBlock] at hb; omega, fun j hj => ?_, fun j b hj hb => by simp [sv, Value.ownBlock] at hb, fun i j b _ hj hb => by simp [sv, Value.ownBlock] at hb⟩
  · refine row_eq h ?_
    apply List.ext_getElem?
    intro j
    by_cases hj : j < n * 2
    · rw [cells2_get _ hj, zeroT_tm]
      rcases Nat.mod_two_eq_zero_or_one j with e | e
      · simp [madeCells, hj, e, sv]
      · simp [madeCells, hj, e]
    · rw [List.getElem?_eq_none (by simp [madeCells]; omega), List.getElem?_eq_none (by rw [cells2_len]; omega)]
  · rw [zeroT_tm]; exact Own.nil _ _ _
end Go.Proofs.Ytkfpacjncpifgaa
