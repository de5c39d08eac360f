/-
  Slices of slices of numbers that a call owns: a list put in, a list more behind them, made of nothing. Conditions: lengths below 2^40.
-/
import Derived.Test.YtfaegfhbbkicgaaLists
namespace Go.Proofs.Ytfaegfhbbkicgaa
open Go.RowKit

theorem row1_eq {w : World} {lo : Nat} {t : TypeId} {v : Value} {n : Nat} {xs ys : List Value} (h : w.ownsRow lo t 1 v n xs) (e : xs = ys) : w.ownsRow lo t 1 v n ys := e ▸ h
theorem OwnL.put {w : World} {lo hi g n c : Nat} {ls : List (List Int)} (h : OwnL w lo hi (some ⟨g, 0, none⟩) n c ls) {k : Nat} (hk : k < n) {lo' hi' n' c' : Nat} {A' : Option Addr} {xs : List Int} (hx : Own w lo' hi' A' n' c' xs)
    (h1 : hi ≤ lo') (h2 : lo ≤ lo') (h3 : hi ≤ hi') :
    OwnL (w.setCell ⟨g, k, none⟩ (.slice A' n' c')) lo hi' (some ⟨g, 0, none⟩) n c (ls.set k xs) ∧ w.grownBy (w.setCell ⟨g, k, none⟩ (.slice A' n' c')) (some g) := by
  obtain ⟨E, hl, ho, hh, he, hne, hdd⟩ := h
  have hgl := hh g rfl
  obtain ⟨o1, gg⟩ := ho.stored k (.slice A' n' c')
  refine ⟨⟨fun j => if j = k then (A', n', c') else E j, by simpa using hl, ?_, fun b hb => by have := hh b hb; omega, fun j hj => ?_, fun j b hj hb => ?_, fun i j b hij hj hb => ?_⟩, gg⟩
  · exact row1_eq o1 (heads_set E hk (A', n', c'))
  · dsimp only
    rw [li_set (by omega)]
    by_cases e : j = k
    · rw [if_pos e, if_pos e]
      exact (hx.grown gg (fun b hb => .inl (by injection hb with hb; omega))).wide h2 (Nat.le_refl _)
    · rw [if_neg e, if_neg e]
      exact ((he j hj).kept gg (fun b hb => hne j b hj hb)).wide (Nat.le_refl _) h3
  · dsimp only at hb
    by_cases e : j = k
    · rw [if_pos e] at hb
      have := hx.lt b hb
      intro e2; injection e2 with e2; dsimp only at e2; omega
    · rw [if_neg e] at hb
      exact hne j b hj hb
  · dsimp only at hb ⊢
    by_cases e : i = k
    · rw [if_pos e] at hb
      rw [if_neg (by omega)]
      intro e2
      have := hx.lt b hb
      have := (he j hj).2 b e2
      omega
    · rw [if_neg e] at hb
      by_cases e' : j = k
      · rw [if_pos e']
        intro e2
        have := hx.lt b e2
        have := (he i (by omega)).2 b hb
        omega
      · rw [if_neg e']
        exact hdd i j b hij hj hb
theorem OwnL.zeros {w : World} {lo hi g n c : Nat} (h : w.ownsRow lo 22 1 (.slice (some ⟨g, 0, none⟩) n c) n (List.replicate n (.slice none 0 0))) (hlt : g < hi) : OwnL w lo hi (some ⟨g, 0, none⟩) n c (List.replicate n []) := by
  refine ⟨fun _ => (none, 0, 0), by simp, row1_eq h ?_, fun b hb => by simp [Value.ownBlock] at hb; omega, fun j hj => ?_, fun j b hj hb => by simp [sv, Value.ownBlock] at hb, fun i j b _ _ hb => by simp [sv, Value.ownBlock] at hb⟩
  · apply List.ext_getElem (by simp [heads])
    intro j h1 h2
    simp [heads, sv]
  · have e : li (List.replicate n ([] : List Int)) j = [] := by rw [li_get (by simpa using hj)]; simp
    rw [e]
    exact Own.nil _ _ _
theorem Try.infoLs : (Try.prog.info? 22).map (fun i => (i.zero, i.size, i.bytes)) = some (some (.slice none 0 0), 1, 24) := by kernel_rfl
/-- 'make([][]int, n)'. -/
theorem wpList_make_lists {ops : Array Oper} {rest : List Oper} {o : Oper} {a : Act} {w : World} {Q : Exit → Act → World → Prop} (hgd : o.guard = none) (l c : Operand) (ho : o.op = .makeSlice 41 l c)
    (n : Nat) (hl : a.eval l = .int .i64 n) (hc : a.eval c = .int .i64 n) (hn : n ≤ 1099511627776)
    (hK : ∀ w', OwnL w' w.heap.size w'.heap.size (some ⟨w.heap.size, 0, none⟩) n n (List.replicate n []) → Below w.heap.size w w' → wpList Try.prog ops Q rest (a.put o.dst (.slice (some ⟨w.heap.size, 0, none⟩) n n)) w') :
    wpList Try.prog ops Q (o :: rest) a w := by
  obtain ⟨i0, hi, hz0, hz1, hz2⟩ := info_parts Try.infoLs
  refine wpList_make_full w hgd l c 41 ho w.heap.size 22 i0 (.slice none 0 0) 1 Try.underlying41 hi hz0 hz1 .i64 .i64 n n n hl hc rfl rfl (by rw [hz2]; omega) (by unfold maxLen; omega) (Nat.le_refl _) ?_
  intro w1 ho1 hg1
  have e : (madeCells (Value.slice none 0 0).cells (n * 1)).toList = List.replicate n (.slice none 0 0) := by
    rw [show (Value.slice none 0 0).cells = #[Value.slice none 0 0] from rfl, Nat.mul_one, toList_madeCells_one]
  rw [e] at ho1
  exact hK w1 (OwnL.zeros ho1 (ho1.lt w.heap.size rfl).2) (grow_below hg1 (Nat.le_refl _) (by intro k hk; cases hk))
/-- 'out = append(out, x)' where x is a list of the call's own that lies behind them. -/
theorem wpList_appendL {ops : Array Oper} {rest : List Oper} {o : Oper} {a : Act} {w : World} {Q : Exit → Act → World → Prop} (hgd : o.guard = none) (s x : Operand)
    (ho : o.op = .call { callee := .builtin .append, args := #[s, x], argTypes := #[41, 41] })
    (lo hi : Nat) (A : Option Addr) (n c : Nat) (ls : List (List Int)) (lo2 hi2 : Nat) (A3 : Option Addr) (n3 c3 : Nat) (xs : List Int) (hs : a.eval s = .slice A n c) (hx : a.eval x = .slice (some ⟨w.heap.size, 0, none⟩) 1 1)
    (hown : OwnL w lo hi A n c ls) (hxs : Own w lo2 hi2 A3 n3 c3 xs) (hlo : lo ≤ lo2) (hd : hi ≤ lo2) (h1 : hi2 ≤ w.heap.size) (h2 : hi ≤ w.heap.size) (h3 : lo ≤ w.heap.size) (hn : n ≤ 1099511627776)
    (hK : ∀ A' c' w', OwnL w' lo w'.heap.size A' (n + 1) c' (ls ++ [xs]) → Below lo w w' → wpList Try.prog ops Q rest (a.put o.dst (.slice A' (n + 1) c')) w') :
    wpList Try.prog ops Q (o :: rest) a (w.alloc (.cells #[.slice A3 n3 c3] 22)) := by
  obtain ⟨i0, hi0, hz0, hz1, hz2⟩ := info_parts Try.infoLs
  obtain ⟨E, hE⟩ := hown
  have hE' : OwnLE E (w.alloc (.cells #[.slice A3 n3 c3] 22)) lo hi A n c ls := hE.below ((Below.refl w.heap.size w).alloc (Nat.le_refl _) _) h2
  have hx' : Own (w.alloc (.cells #[.slice A3 n3 c3] 22)) lo2 hi2 A3 n3 c3 xs := hxs.below ((Below.refl w.heap.size w).alloc (Nat.le_refl _) _) h1
  refine Go.wpList_append_own_at _ hgd s x 41 ho lo 22 i0 (.slice none 0 0) 1 24 Try.underlying41 hi0 hz0 hz1 hz2 rfl (by decide) _ _ _ hs hE'.2.1 ⟨w.heap.size, 0, none⟩ 1 1 [.slice A3 n3 c3] hx rfl ?_ ?_ (by unfold maxLen; omega) (by omega) (by simp; omega) ?_
  · intro j u hj
    match j, hj with
    | 0, hj =>
      simp at hj
      subst hj
      rw [add_pt]
      exact (Blk.new w 22 #[.slice A3 n3 c3]).cell 0
  · intro u hu
    simp at hu
    subst hu
    rfl
  · intro v' w1 ho1 hg1 _ hat
    obtain ⟨g, cap, rfl, _, hlt⟩ := ho1.form (by omega)
    have hh : OwnL w1 lo w1.heap.size (some ⟨g, 0, none⟩) (n + 1) cap (ls ++ [xs]) := hE'.app hx' hlo hd (H := w.heap.size) h1 h2 (by simp) ho1 hg1 (by
      rcases hat with h | h
      · exact .inl (by rw [← h]; rfl)
      · right
        simp [Value.ownBlock] at h
        omega) hlt
    have hg2 : w.grownBy w1 (Value.slice A n c).ownBlock := (World.grownBy_alloc w _ _).trans hg1
    exact hK _ _ w1 hh (grow_below hg2 h3 (fun k hk => (hE.2.1.lt k hk).1))
end Go.Proofs.Ytfaegfhbbkicgaa
