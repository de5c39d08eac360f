/-
  The document's lists of terms (a key and a coefficient): how they read, lists that a call owns, appending. Conditions: lengths below 2^40.
-/
import Derived.Test.YtkfpacjncpifgaaCells
namespace Go.Proofs.Ytkfpacjncpifgaa
open Go.RowKit

/-- The slice (A, n) reads as the cells cs. -/
def MS (w : World) (A : Option Addr) (n : Nat) (cs : List Ce) : Prop :=
  cs.length = n ∧ (0 < n → ∃ b o, A = some ⟨b, o, none⟩ ∧ b < w.heap.size ∧ ∀ k, k < n → w.cell? ⟨b, o + k * 2, none⟩ = some (.int .i64 (ce cs k).1) ∧ w.cell? ⟨b, o + k * 2 + 1, none⟩ = some (.int .i64 (ce cs k).2))
section
variable {w w' : World} {A : Option Addr} {n : Nat} {cs : List Ce}
theorem MS.at_ (h : MS w A n cs) {k : Nat} (hk : k < n) : ∃ b o, A = some ⟨b, o, none⟩ ∧ b < w.heap.size ∧ w.cell? ⟨b, o + k * 2, none⟩ = some (.int .i64 (ce cs k).1) ∧ w.cell? ⟨b, o + k * 2 + 1, none⟩ = some (.int .i64 (ce cs k).2) := by
  obtain ⟨b, o, e, hb, hc⟩ := h.2 (by omega)
  exact ⟨b, o, e, hb, hc k hk⟩
theorem MS.below {B : Nat} (h : MS w A n cs) (hb : Below B w w') (hB : w.heap.size ≤ B) : MS w' A n cs :=
  ⟨h.1, fun hn => by
    obtain ⟨b, o, e, hl, hc⟩ := h.2 hn
    have hs := hb.size
    exact ⟨b, o, e, by omega, fun k hk => ⟨(hb.cell (p := ⟨b, o + k * 2, none⟩) (by show b < B; omega)).trans (hc k hk).1, (hb.cell (p := ⟨b, o + k * 2 + 1, none⟩) (by show b < B; omega)).trans (hc k hk).2⟩⟩⟩
theorem MS.drawn (h : MS w A n cs) (hd : Drawn w w') : MS w' A n cs := by obtain ⟨m, rfl⟩ := hd; exact h
theorem MS.drewN (h : MS w A n cs) (k : Nat) : MS (w.drewN k) A n cs := h
theorem MS.range {b o k : Nat} {x y : Int} (h0 : w.cell? ⟨b, o + k * 2, none⟩ = some (.int .i64 x)) (h1 : w.cell? ⟨b, o + k * 2 + 1, none⟩ = some (.int .i64 y)) : w.rangeAt b (o + k * 2) [.int .i64 x, .int .i64 y] := by
  intro j u hj
  match j, hj with
  | 0, hj => simp at hj; subst hj; exact h0
  | 1, hj => simp at hj; subst hj; exact h1
end
/-- The slice (A, n, c) holds the cells cs in a block of the call's own between lo and hi (or is nil). -/
def OwnM (w : World) (lo hi : Nat) (A : Option Addr) (n c : Nat) (cs : List Ce) : Prop :=
  cs.length = n ∧ w.ownsRow lo 108 2 (.slice A n c) n (cells2 n (cv cs)) ∧ ∀ k, (Value.slice A n c).ownBlock = some k → k < hi
theorem rowm_eq {w : World} {lo : Nat} {v : Value} {n : Nat} {xs ys : List Value} (h : w.ownsRow lo 108 2 v n xs) (e : xs = ys) : w.ownsRow lo 108 2 v n ys := e ▸ h
section
variable {w w' : World} {lo hi n c : Nat} {A : Option Addr} {cs : List Ce}
theorem OwnM.len (h : OwnM w lo hi A n c cs) : cs.length = n := h.1
theorem OwnM.nil (w : World) (lo hi : Nat) : OwnM w lo hi none 0 0 [] := ⟨rfl, by simpa [cells2] using World.ownsRow_nil _ _ _ _, fun k hk => by simp [Value.ownBlock] at hk⟩
theorem OwnM.place (h : OwnM w lo hi A n c cs) (hn : 0 < n) : ∃ g, A = some ⟨g, 0, none⟩ ∧ lo ≤ g ∧ g < hi := by
  obtain ⟨g, cap, e, h1, _⟩ := h.2.1.form hn
  have hA : A = some ⟨g, 0, none⟩ := by injection e
  subst hA
  exact ⟨g, rfl, h1, h.2.2 g rfl⟩
theorem OwnM.si (h : OwnM w lo hi A n c cs) : MS w A n cs := by
  refine ⟨h.len, fun hn => ?_⟩
  obtain ⟨g, rfl, _, _⟩ := h.place hn
  refine ⟨g, 0, rfl, (h.2.1.lt g rfl).2, fun k hk => ⟨?_, ?_⟩⟩
  · rw [Nat.zero_add, h.2.1.cellAt (k * 2) (by omega), cells2_get0 _ hk]; rfl
  · rw [Nat.zero_add, h.2.1.cellAt (k * 2 + 1) (by omega), cells2_get1 _ hk]; rfl
theorem OwnM.below {B : Nat} (h : OwnM w lo hi A n c cs) (hb : Below B w w') (hB : hi ≤ B) : OwnM w' lo hi A n c cs := by
  refine ⟨h.1, ⟨h.2.1.1, ?_⟩, h.2.2⟩
  rcases h.2.1.2 with hn | ⟨g, cap, cur, e, hl, hg, rest⟩
  · exact .inl hn
  · have hlt := h.2.2 g (by rw [e]; rfl)
    exact .inr ⟨g, cap, cur, e, hl, (hb.block g (by omega)).trans hg, rest⟩
theorem OwnM.drawn (h : OwnM w lo hi A n c cs) (hd : Drawn w w') : OwnM w' lo hi A n c cs := h.below (hd.below hi) (Nat.le_refl _)
theorem OwnM.within {lo' hi' : Nat} (h : OwnM w lo hi A n c cs) (hw : Within lo' hi' w w') (hd : hi ≤ lo' ∨ hi' ≤ lo) : OwnM w' lo hi A n c cs := by
  refine ⟨h.1, ⟨h.2.1.1, ?_⟩, h.2.2⟩
  rcases h.2.1.2 with hn | ⟨g, cap, cur, e, hl, hg, rest⟩
  · exact .inl hn
  · have hlt := h.2.2 g (by rw [e]; rfl)
    have hsz := (h.2.1.lt g (by rw [e]; rfl)).2
    exact .inr ⟨g, cap, cur, e, hl, (hw.2.2.2.2 g hsz (by omega)).trans hg, rest⟩
theorem OwnM.wide {lo' hi' : Nat} (h : OwnM w lo hi A n c cs) (h1 : lo' ≤ lo) (h2 : hi ≤ hi') : OwnM w lo' hi' A n c cs := by
  refine ⟨h.1, ⟨h.2.1.1, ?_⟩, fun k hk => Nat.lt_of_lt_of_le (h.2.2 k hk) h2⟩
  rcases h.2.1.2 with hn | ⟨g, cap, cur, e, hl, rest⟩
  · exact .inl hn
  · exact .inr ⟨g, cap, cur, e, Nat.le_trans h1 hl, rest⟩
theorem OwnM.set1 {g k : Nat} (h : OwnM w lo hi (some ⟨g, 0, none⟩) n c cs) (hk : k < n) (x : Int) :
    OwnM (w.setCell ⟨g, k * 2, none⟩ (.int .i64 x)) lo hi (some ⟨g, 0, none⟩) n c (cs.set k (x, (ce cs k).2)) ∧ w.grownBy (w.setCell ⟨g, k * 2, none⟩ (.int .i64 x)) (some g) := by
  obtain ⟨h1, h2⟩ := h.2.1.stored (k * 2) (.int .i64 x)
  refine ⟨⟨by simpa using h.1, ?_, h.2.2⟩, h2⟩
  rw [cells2_set0 _ hk] at h1
  refine rowm_eq h1 (cells2_congr fun j hj => ?_)
  unfold cv
  rw [ce_set (by rw [h.1]; exact hk)]
  by_cases e : j = k
  · subst e; simp
  · simp [e]
theorem OwnM.set2 {g k : Nat} (h : OwnM w lo hi (some ⟨g, 0, none⟩) n c cs) (hk : k < n) (x : Int) :
    OwnM (w.setCell ⟨g, k * 2 + 1, none⟩ (.int .i64 x)) lo hi (some ⟨g, 0, none⟩) n c (cs.set k ((ce cs k).1, x)) ∧ w.grownBy (w.setCell ⟨g, k * 2 + 1, none⟩ (.int .i64 x)) (some g) := by
  obtain ⟨h1, h2⟩ := h.2.1.stored (k * 2 + 1) (.int .i64 x)
  refine ⟨⟨by simpa using h.1, ?_, h.2.2⟩, h2⟩
  rw [cells2_set1 _ hk] at h1
  refine rowm_eq h1 (cells2_congr fun j hj => ?_)
  unfold cv
  rw [ce_set (by rw [h.1]; exact hk)]
  by_cases e : j = k
  · subst e; simp
  · simp [e]
theorem OwnM.cells {g k : Nat} (h : OwnM w lo hi (some ⟨g, 0, none⟩) n c cs) (hk : k < n) :
    w.cell? ⟨g, k * 2, none⟩ = some (.int .i64 (ce cs k).1) ∧ w.cell? ⟨g, k * 2 + 1, none⟩ = some (.int .i64 (ce cs k).2) ∧ ∀ j, w.frozen? ⟨g, j, none⟩ = false := by
  refine ⟨?_, ?_, fun j => h.2.1.frozenAt j⟩
  · rw [h.2.1.cellAt (k * 2) (by omega), cells2_get0 _ hk]; rfl
  · rw [h.2.1.cellAt (k * 2 + 1) (by omega), cells2_get1 _ hk]; rfl
end
theorem OwnM.empty (w : World) : OwnM (w.alloc (.cells #[] 108)) w.heap.size (w.heap.size + 1) (some ⟨w.heap.size, 0, none⟩) 0 0 [] :=
  ⟨rfl, World.ownsRow_lit w #[] 0 (Nat.le_refl _) (Nat.zero_le _) rfl, fun k hk => by simp [Value.ownBlock] at hk; omega⟩
/-- What a call that makes a slice of cells hands back. -/
def FreshM (w w' : World) (e : Ending) (cs : List Ce) : Prop :=
  ∃ A n c, e = .returned (.slice A n c) ∧ OwnM w' w.heap.size w'.heap.size A n c cs ∧ Below w.heap.size w w'
theorem FreshM.nil_ret {w w' : World} (h : Below w.heap.size w w') : FreshM w w' (.returned (.slice none 0 0)) [] := ⟨none, 0, 0, rfl, OwnM.nil _ _ _, h⟩

theorem Try.infoMonZ : (Try.prog.info? 108).map (fun i => (i.zero, i.size, i.bytes)) = some (some (.agg #[.int .i64 0, .int .i64 0]), 2, 16) := by kernel_rfl
theorem Try.infoMon : (Try.prog.info? 108).map (·.size) = some 2 := by kernel_rfl
/-- 'out = append(out, Cell{..})' on a slice of the call's own. -/
theorem wpList_appendM {ops : Array Oper} {rest : List Oper} {o : Oper} {a : Act} {w : World} {Q : Exit → Act → World → Prop} (hgd : o.guard = none) (s x : Operand)
    (ho : o.op = .call { callee := .builtin .append, args := #[s, x], argTypes := #[65, 65] })
    (lo : Nat) (A : Option Addr) (n c : Nat) (cs : List Ce) (p q : Int) (hs : a.eval s = .slice A n c) (hx : a.eval x = .slice (some ⟨w.heap.size, 0, none⟩) 1 1)
    (hown : OwnM w lo w.heap.size A n c cs) (hlo : lo ≤ w.heap.size) (hn : n ≤ 1099511627776)
    (hK : ∀ A' c' w', OwnM w' lo w'.heap.size A' (n + 1) c' (cs ++ [(p, q)]) → Below lo w w' → w.grownBy w' (Value.slice A n c).ownBlock → (∀ g, (Value.slice A' (n + 1) c').ownBlock = some g → (Value.slice A n c).ownBlock = some g ∨ w.heap.size ≤ g) → wpList Try.prog ops Q rest (a.put o.dst (.slice A' (n + 1) c')) w') :
    wpList Try.prog ops Q (o :: rest) a (w.alloc (.cells #[.int .i64 p, .int .i64 q] 108)) := by
  obtain ⟨i0, hi, hz0, hz1, hz2⟩ := info_parts Try.infoMonZ
  refine Go.wpList_append_own_at _ hgd s x 65 ho lo 108 i0 (.agg #[.int .i64 0, .int .i64 0]) 2 16 Try.underlying65 hi hz0 hz1 hz2 rfl (by decide) _ _ _ hs (hown.2.1.alloc _) ⟨w.heap.size, 0, none⟩ 1 1 [.int .i64 p, .int .i64 q] hx rfl ?_ ?_ (by unfold maxLen; omega) (by omega) (by simp; omega) ?_
  · intro j u hj
    rw [add_pt, Nat.zero_add, (Blk.new w 108 #[.int .i64 p, .int .i64 q]).cell j]
    simpa using hj
  · intro u hu
    simp at hu
    rcases hu with rfl | rfl <;> rfl
  · intro v' w1 ho1 hg1 _ hat
    rw [cells2_app] at ho1
    obtain ⟨g, cap, rfl, _, _⟩ := ho1.form (by omega)
    have hg2 : w.grownBy w1 (Value.slice A n c).ownBlock := (World.grownBy_alloc w _ _).trans hg1
    refine hK _ _ w1 ⟨by simp [hown.1], rowm_eq ho1 (cells2_congr fun j hj => ?_), fun k hk => (ho1.lt k hk).2⟩ (grow_below hg2 hlo (fun k hk => (hown.2.1.lt k hk).1)) hg2 (fun b hb => by
      rcases hat with h | h
      · exact .inl (h ▸ hb)
      · right; rw [h] at hb; injection hb with hb; rw [← hb]; simp)
    unfold cv
    by_cases e : j = n
    · subst e
      rw [if_pos rfl]
      have := @ce_app_at cs (p, q)
      rw [hown.1] at this
      rw [this]
    · rw [if_neg e, ce_app_lt (by rw [hown.1]; omega)]

end Go.Proofs.Ytkfpacjncpifgaa
