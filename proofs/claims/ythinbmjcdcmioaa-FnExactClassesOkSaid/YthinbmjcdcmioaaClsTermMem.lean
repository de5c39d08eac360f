/-
  TermMem, for values of type Class instead of terms (made by wip/gen/gen_cls.py). Conditions: lengths below 2^40.
-/
import Derived.Test.YthinbmjcdcmioaaTermMem
import Derived.Test.YthinbmjcdcmioaaTerms
import Derived.Deep.MidRow
namespace Go.Proofs.Ythinbmjcdcmioaa.Cls
open Go.RowKit
section
variable {w w' : World} {A : Option Addr} {n : Nat} {ts : List Tm}
end

/-- The slice (A, n, c) holds the terms ts: its block, and a block for the exponents of each term, all the call's own between lo and hi, no two of them one. -/
def OwnTC (w : World) (lo hi : Nat) (A : Option Addr) (n c : Nat) (ts : List Tm) : Prop :=
  ∃ E : Nat → Sv, ts.length = n ∧ w.ownsRow lo 87 2 (.slice A n c) n (cells2 n fun k => (sv (E k), .int .i64 (tm ts k).2)) ∧ (∀ k, (Value.slice A n c).ownBlock = some k → k < hi) ∧
    (∀ j, j < n → Own w lo hi (E j).1 (E j).2.1 (E j).2.2 (tm ts j).1) ∧ (∀ j g, j < n → (sv (E j)).ownBlock = some g → (Value.slice A n c).ownBlock ≠ some g) ∧
    (∀ i j g, i < j → j < n → (sv (E i)).ownBlock = some g → (sv (E j)).ownBlock ≠ some g)
section
variable {w w' : World} {lo hi n c : Nat} {A : Option Addr} {ts : List Tm}
theorem OwnTC.len (h : OwnTC w lo hi A n c ts) : ts.length = n := by obtain ⟨_, h1, _⟩ := h; exact h1
theorem OwnTC.nil (w : World) (lo hi : Nat) : OwnTC w lo hi none 0 0 [] :=
  ⟨fun _ => (none, 0, 0), rfl, by simpa [cells2] using World.ownsRow_nil _ _ _ _, fun k hk => by simp [Value.ownBlock] at hk, fun j hj => absurd hj (by omega), fun j g hj => absurd hj (by omega), fun i j g _ hj => absurd hj (by omega)⟩
theorem OwnTC.place (h : OwnTC w lo hi A n c ts) (hn : 0 < n) : ∃ g, A = some ⟨g, 0, none⟩ ∧ lo ≤ g ∧ g < hi := by
  obtain ⟨E, _, ho, hh, _⟩ := h
  obtain ⟨g, cap, e, h1, _⟩ := ho.form hn
  have hA : A = some ⟨g, 0, none⟩ := by injection e
  subst hA
  exact ⟨g, rfl, h1, hh g rfl⟩
theorem OwnTC.rd (h : OwnTC w lo hi A n c ts) : TS w A n ts := by
  refine ⟨h.len, fun hn => ?_⟩
  obtain ⟨g, rfl, _, _⟩ := h.place hn
  obtain ⟨E, hl, ho, hh, he, _⟩ := h
  refine ⟨g, 0, rfl, ?_, fun k hk => ?_⟩
  · obtain ⟨g', cap, e, _, h2⟩ := ho.form hn
    injection e with e1; injection e1 with e1; injection e1 with e1
    subst e1; exact h2
  · refine ⟨(E k).1, (E k).2.1, (E k).2.2, ?_, ?_, (he k hk).si, (he k hk).cap, ?_⟩
    · rw [Nat.zero_add, ho.cellAt (k * 2) (by omega), cells2_get0 _ hk]; rfl
    · rw [Nat.zero_add, ho.cellAt (k * 2 + 1) (by omega), cells2_get1 _ hk]
    · intro e
      have := he k hk
      rw [e] at this
      exact this.nilcap
theorem OwnTC.si (h : OwnTC w lo hi A n c ts) : TS w A n ts := h.rd
theorem OwnTC.below {B : Nat} (h : OwnTC w lo hi A n c ts) (hb : Below B w w') (hB : hi ≤ B) : OwnTC w' lo hi A n c ts := by
  obtain ⟨E, h1, h2, h3, h4, h5, h6⟩ := h
  refine ⟨E, h1, ⟨h2.1, ?_⟩, h3, fun j hj => (h4 j hj).below hb hB, h5, h6⟩
  rcases h2.2 with hn | ⟨g, cap, cur, e, hl, hg, rest⟩
  · exact .inl hn
  · have hlt := h3 g (by rw [e]; rfl)
    exact .inr ⟨g, cap, cur, e, hl, (hb.block g (by omega)).trans hg, rest⟩
theorem OwnTC.drawn (h : OwnTC w lo hi A n c ts) (hd : Drawn w w') : OwnTC w' lo hi A n c ts := h.below (hd.below hi) (Nat.le_refl _)
theorem OwnTC.cap (h : OwnTC w lo hi A n c ts) : n ≤ c := by
  obtain ⟨E, _, h2, _⟩ := h
  rcases h2.2 with ⟨e, h0⟩ | ⟨g, cap, cur, e, _, _, hc, _⟩
  · omega
  · injection e with _ _ e3; omega
end
theorem OwnTC.within {w w' : World} {lo hi n c lo' hi' : Nat} {A : Option Addr} {ts : List Tm} (h : OwnTC w lo hi A n c ts) (hw : Within lo' hi' w w') (hd : hi ≤ lo' ∨ hi' ≤ lo) : OwnTC w' lo hi A n c ts := by
  obtain ⟨E, h1, h2, h3, h4, h5, h6⟩ := h
  refine ⟨E, h1, ⟨h2.1, ?_⟩, h3, fun j hj => (h4 j hj).within hw hd, h5, h6⟩
  rcases h2.2 with hn | ⟨g, cap, cur, e, hl, hg, rest⟩
  · exact .inl hn
  · have hlt := h3 g (by rw [e]; rfl)
    have hsz := (h2.lt g (by rw [e]; rfl)).2
    exact .inr ⟨g, cap, cur, e, hl, (hw.2.2.2.2 g hsz (by omega)).trans hg, rest⟩
/-- What a call that makes a slice of terms hands back. -/
def FreshTC (w w' : World) (e : Ending) (ts : List Tm) : Prop :=
  ∃ A n c, e = .returned (.slice A n c) ∧ OwnTC w' w.heap.size w'.heap.size A n c ts ∧ Below w.heap.size w w'

theorem row_eqC {w : World} {lo : Nat} {v : Value} {n : Nat} {xs ys : List Value} (h : w.ownsRow lo 87 2 v n xs) (e : xs = ys) : w.ownsRow lo 87 2 v n ys := e ▸ h
/-- One term stored: its exponents lie in a newer block of the call's own. -/
theorem OwnTC.put {w : World} {lo hi g n c : Nat} {ts : List Tm} (h : OwnTC w lo hi (some ⟨g, 0, none⟩) n c ts) {k : Nat} (hk : k < n) {lo' hi' n' c' : Nat} {A' : Option Addr} {xs : List Int} (hx : Own w lo' hi' A' n' c' xs)
    (h1 : hi ≤ lo') (h2 : lo ≤ lo') (h3 : hi ≤ hi') (x : Int) :
    OwnTC ((w.setCell ⟨g, k * 2, none⟩ (.slice A' n' c')).setCell ⟨g, k * 2 + 1, none⟩ (.int .i64 x)) lo hi' (some ⟨g, 0, none⟩) n c (ts.set k (xs, x)) ∧
      w.grownBy ((w.setCell ⟨g, k * 2, none⟩ (.slice A' n' c')).setCell ⟨g, k * 2 + 1, none⟩ (.int .i64 x)) (some g) := by
  obtain ⟨E, hl, ho, hh, he, hne, hdd⟩ := h
  have hgl := hh g rfl
  obtain ⟨o1, g1⟩ := ho.stored (k * 2) (.slice A' n' c')
  obtain ⟨o2, g2⟩ := o1.stored (k * 2 + 1) (.int .i64 x)
  have gg := g1.trans g2
  refine ⟨⟨fun j => if j = k then (A', n', c') else E j, by simpa using hl, ?_, fun b hb => by have := hh b hb; omega, fun j hj => ?_, fun j b hj hb => ?_, fun i j b hij hj hb => ?_⟩, gg⟩
  · rw [cells2_set0 _ hk, cells2_set1 _ hk] at o2
    refine row_eqC o2 ?_
    apply cells2_congr
    intro j hj
    dsimp only
    rw [tm_set (by omega)]
    by_cases e : j = k
    · subst e; simp [sv]
    · simp [e]
  · dsimp only
    rw [tm_set (by omega)]
    by_cases e : j = k
    · rw [if_pos e, if_pos e]
      exact (hx.grown gg (fun b hb => .inl (by injection hb with hb; omega))).wide h2 (Nat.le_refl _)
    · rw [if_neg e, if_neg e]
      exact ((he j hj).kept gg (fun b hb => hne j b hj hb)).wide (Nat.le_refl _) h3
  · dsimp only at hb
    by_cases e : j = k
    · rw [if_pos e] at hb
      have := hx.lt b hb
      intro e2; injection e2 with e2; dsimp only at e2; omega
    · rw [if_neg e] at hb
      exact hne j b hj hb
  · dsimp only at hb ⊢
    by_cases e : i = k
    · rw [if_pos e] at hb
      rw [if_neg (by omega)]
      intro e2
      have := hx.lt b hb
      have := (he j hj).2 b e2
      omega
    · rw [if_neg e] at hb
      by_cases e' : j = k
      · rw [if_pos e']
        intro e2
        have := hx.lt b e2
        have := (he i (by omega)).2 b hb
        omega
      · rw [if_neg e']
        exact hdd i j b hij hj hb
/-- Only the number of a term stored. -/
theorem OwnTC.put2 {w : World} {lo hi g n c : Nat} {ts : List Tm} (h : OwnTC w lo hi (some ⟨g, 0, none⟩) n c ts) {k : Nat} (hk : k < n) (x : Int) :
    OwnTC (w.setCell ⟨g, k * 2 + 1, none⟩ (.int .i64 x)) lo hi (some ⟨g, 0, none⟩) n c (ts.set k ((tm ts k).1, x)) ∧ w.grownBy (w.setCell ⟨g, k * 2 + 1, none⟩ (.int .i64 x)) (some g) := by
  obtain ⟨E, hl, ho, hh, he, hne, hdd⟩ := h
  obtain ⟨o2, gg⟩ := ho.stored (k * 2 + 1) (.int .i64 x)
  refine ⟨⟨E, by simpa using hl, ?_, hh, fun j hj => ?_, hne, hdd⟩, gg⟩
  · rw [cells2_set1 _ hk] at o2
    refine row_eqC o2 ?_
    apply cells2_congr
    intro j hj
    dsimp only
    rw [tm_set (by omega)]
    by_cases e : j = k
    · subst e; simp
    · simp [e]
  · rw [tm_set (by omega)]
    have := (he j hj).kept gg (fun b hb => hne j b hj hb)
    by_cases e : j = k
    · subst e; rw [if_pos rfl]; exact this
    · rw [if_neg e]; exact this
/-- The exponents of one term, at its place. -/
theorem OwnTC.exp {w : World} {lo hi g n c : Nat} {ts : List Tm} (h : OwnTC w lo hi (some ⟨g, 0, none⟩) n c ts) {k : Nat} (hk : k < n) :
    ∃ A' n' c', w.cell? ⟨g, k * 2, none⟩ = some (.slice A' n' c') ∧ w.cell? ⟨g, k * 2 + 1, none⟩ = some (.int .i64 (tm ts k).2) ∧ (∀ j, w.frozen? ⟨g, j, none⟩ = false) ∧ Own w lo hi A' n' c' (tm ts k).1 ∧
      ∀ w' ys, Own w' lo hi A' n' c' ys → w.grownBy w' (Value.slice A' n' c').ownBlock → OwnTC w' lo hi (some ⟨g, 0, none⟩) n c (ts.set k (ys, (tm ts k).2)) := by
  obtain ⟨E, hl, ho, hh, he, hne, hdd⟩ := h
  refine ⟨(E k).1, (E k).2.1, (E k).2.2, ?_, ?_, fun j => ho.frozenAt j, he k hk, ?_⟩
  · rw [ho.cellAt (k * 2) (by omega), cells2_get0 _ hk]; rfl
  · rw [ho.cellAt (k * 2 + 1) (by omega), cells2_get1 _ hk]
  · intro w' ys hy hg
    refine ⟨E, by simpa using hl, ?_, hh, fun j hj => ?_, hne, hdd⟩
    · have o2 := ho.kept hg (.inr fun e => hne k g hk e.symm rfl)
      refine row_eqC o2 ?_
      apply cells2_congr
      intro j hj
      rw [tm_set (by omega)]
      by_cases e : j = k
      · subst e; simp
      · simp [e]
    · rw [tm_set (by omega)]
      by_cases e : j = k
      · subst e; rw [if_pos rfl]; exact hy
      · rw [if_neg e]
        refine (he j hj).kept hg (fun b hb e2 => ?_)
        rcases Nat.lt_or_ge j k with h | h
        · exact hdd j k b h hk hb e2
        · exact hdd k j b (by omega) hj e2 hb
theorem OwnTC.zeros {w : World} {lo g n c : Nat} (h : w.ownsRow lo 87 2 (.slice (some ⟨g, 0, none⟩) n c) n (madeCells #[.slice none 0 0, .int .i64 0] (n * 2)).toList) (hg : g < w.heap.size) : OwnTC w lo w.heap.size (some ⟨g, 0, none⟩) n c (zeroT n) := by
  refine ⟨fun _ => (none, 0, 0), by simp [zeroT], ?_, fun b hb => by simp [Value.ownBlock] at hb; omega, fun j hj => ?_, fun j b hj hb => by simp [sv, Value.ownBlock] at hb, fun i j b _ hj hb => by simp [sv, Value.ownBlock] at hb⟩
  · refine row_eqC h ?_
    apply List.ext_getElem?
    intro j
    by_cases hj : j < n * 2
    · rw [cells2_get _ hj, zeroT_tm]
      rcases Nat.mod_two_eq_zero_or_one j with e | e
      · simp [madeCells, hj, e, sv]
      · simp [madeCells, hj, e]
    · rw [List.getElem?_eq_none (by simp [madeCells]; omega), List.getElem?_eq_none (by rw [cells2_len]; omega)]
  · rw [zeroT_tm]; exact Own.nil _ _ _
end Go.Proofs.Ythinbmjcdcmioaa.Cls
