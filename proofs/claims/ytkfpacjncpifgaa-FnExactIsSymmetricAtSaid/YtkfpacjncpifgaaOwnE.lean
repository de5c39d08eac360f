/-
  Slices of terms that a call owns: the empty one, a wider frame, a term more behind them. Plain lemmas. No conditions.
-/
import Derived.Test.YtkfpacjncpifgaaConstMono
import Derived.Deep.AppendLies
namespace Go.Proofs.Ytkfpacjncpifgaa
open Go.RowKit

theorem OwnT.empty (w : World) : OwnT (w.alloc (.cells #[] 68)) w.heap.size (w.heap.size + 1) (some ⟨w.heap.size, 0, none⟩) 0 0 [] :=
  ⟨fun _ => (none, 0, 0), rfl, World.ownsRow_lit w #[] 0 (Nat.le_refl _) (Nat.zero_le _) rfl, fun k hk => by simp [Value.ownBlock] at hk; omega, fun j hj => absurd hj (by omega), fun j g hj => absurd hj (by omega), fun i j g _ hj => absurd hj (by omega)⟩
theorem OwnT.wide {w : World} {lo hi lo' hi' n c : Nat} {A : Option Addr} {ts : List Tm} (h : OwnT w lo hi A n c ts) (h1 : lo' ≤ lo) (h2 : hi ≤ hi') : OwnT w lo' hi' A n c ts := by
  obtain ⟨E, e1, e2, e3, e4, e5, e6⟩ := h
  refine ⟨E, e1, ⟨e2.1, ?_⟩, fun k hk => Nat.lt_of_lt_of_le (e3 k hk) h2, fun j hj => (e4 j hj).wide h1 h2, e5, e6⟩
  rcases e2.2 with hn | ⟨g, cap, cur, e, hl, rest⟩
  · exact .inl hn
  · exact .inr ⟨g, cap, cur, e, Nat.le_trans h1 hl, rest⟩
/-- The same, the blocks of the exponents named. -/
def OwnE (E : Nat → Sv) (w : World) (lo hi : Nat) (A : Option Addr) (n c : Nat) (ts : List Tm) : Prop :=
  ts.length = n ∧ w.ownsRow lo 68 2 (.slice A n c) n (cells2 n fun k => (sv (E k), .int .i64 (tm ts k).2)) ∧ (∀ k, (Value.slice A n c).ownBlock = some k → k < hi) ∧
    (∀ j, j < n → Own w lo hi (E j).1 (E j).2.1 (E j).2.2 (tm ts j).1) ∧ (∀ j g, j < n → (sv (E j)).ownBlock = some g → (Value.slice A n c).ownBlock ≠ some g) ∧
    (∀ i j g, i < j → j < n → (sv (E i)).ownBlock = some g → (sv (E j)).ownBlock ≠ some g)
theorem OwnE.below {E : Nat → Sv} {w w' : World} {lo hi n c B : Nat} {A : Option Addr} {ts : List Tm} (h : OwnE E w lo hi A n c ts) (hb : Below B w w') (hB : hi ≤ B) : OwnE E w' lo hi A n c ts := by
  obtain ⟨h1, h2, h3, h4, h5, h6⟩ := h
  refine ⟨h1, ⟨h2.1, ?_⟩, h3, fun j hj => (h4 j hj).below hb hB, h5, h6⟩
  rcases h2.2 with hn | ⟨g, cap, cur, e, hl, hg, rest⟩
  · exact .inl hn
  · have hlt := h3 g (by rw [e]; rfl)
    exact .inr ⟨g, cap, cur, e, hl, (hb.block g (by omega)).trans hg, rest⟩
theorem OwnT.named {w : World} {lo hi n c : Nat} {A : Option Addr} {ts : List Tm} (h : OwnT w lo hi A n c ts) : ∃ E, OwnE E w lo hi A n c ts := h
/-- A term more behind them. -/
theorem OwnE.app {E : Nat → Sv} {w w' : World} {lo hi n c : Nat} {A : Option Addr} {ts : List Tm} (h : OwnE E w lo hi A n c ts) {lo2 hi2 n2 c2 : Nat} {A2 : Option Addr} {xs : List Int} (x : Int) (hx : Own w lo2 hi2 A2 n2 c2 xs)
    (hlo : lo ≤ lo2) (hd : hi ≤ lo2) {H g cap : Nat} (hH : hi2 ≤ H) (hHh : hi ≤ H) (hHw : H ≤ w.heap.size)
    (ho : w'.ownsRow lo 68 2 (.slice (some ⟨g, 0, none⟩) (n + 1) cap) (n + 1) (cells2 n (fun k => (sv (E k), .int .i64 (tm ts k).2)) ++ [.slice A2 n2 c2, .int .i64 x]))
    (hg : w.grownBy w' (Value.slice A n c).ownBlock) (hat : (Value.slice A n c).ownBlock = some g ∨ H ≤ g) (hlt : g < w'.heap.size) : OwnT w' lo w'.heap.size (some ⟨g, 0, none⟩) (n + 1) cap (ts ++ [(xs, x)]) := by
  obtain ⟨h1, h2, h3, h4, h5, h6⟩ := h
  have hsz := hg.size
  rw [cells2_app] at ho
  have eE : ∀ j, j < n → (if j = n then ((A2, n2, c2) : Sv) else E j) = E j := fun j hj => by rw [if_neg (by omega)]
  have eN : (if n = n then ((A2, n2, c2) : Sv) else E n) = (A2, n2, c2) := if_pos rfl
  refine ⟨fun j => if j = n then (A2, n2, c2) else E j, by simp [h1], row_eq ho (cells2_congr fun j hj => ?_), ?_, ?_, ?_, ?_⟩
  · by_cases e : j = n
    · subst e
      have := @tm_app_at ts (xs, x)
      rw [h1] at this
      rw [if_pos rfl]
      show (Value.slice A2 n2 c2, Value.int .i64 x) = (sv (if j = j then ((A2, n2, c2) : Sv) else E j), Value.int .i64 (tm (ts ++ [(xs, x)]) j).2)
      rw [eN, this]; rfl
    · rw [if_neg e]
      show _ = (sv (if j = n then ((A2, n2, c2) : Sv) else E j), Value.int .i64 (tm (ts ++ [(xs, x)]) j).2)
      rw [eE j (by omega), tm_app_lt (by rw [h1]; omega)]
  · intro k hk
    simp [Value.ownBlock] at hk
    omega
  · intro j hj
    by_cases e : j = n
    · subst e
      have := @tm_app_at ts (xs, x)
      rw [h1] at this
      rw [this]
      show Own w' lo w'.heap.size (if j = j then ((A2, n2, c2) : Sv) else E j).1 (if j = j then ((A2, n2, c2) : Sv) else E j).2.1 (if j = j then ((A2, n2, c2) : Sv) else E j).2.2 xs
      rw [eN]
      exact (hx.kept hg (fun b hb e => by have h7 := hx.lt b hb; have h8 := h3 b e; omega)).wide hlo (by omega)
    · rw [tm_app_lt (by rw [h1]; omega)]
      show Own w' lo w'.heap.size (if j = n then ((A2, n2, c2) : Sv) else E j).1 (if j = n then ((A2, n2, c2) : Sv) else E j).2.1 (if j = n then ((A2, n2, c2) : Sv) else E j).2.2 _
      rw [eE j (by omega)]
      exact ((h4 j (by omega)).kept hg (fun b hb e => h5 j b (by omega) hb e)).wide (Nat.le_refl _) (by omega)
  · intro j b hj hb e2
    have hbg : b = g := by simp [Value.ownBlock] at e2; omega
    subst hbg
    have hb' : (sv (if j = n then ((A2, n2, c2) : Sv) else E j)).ownBlock = some b := hb
    by_cases e : j = n
    · subst e
      rw [eN] at hb'
      have h7 := hx.lt b hb'
      rcases hat with ha | ha
      · have := h3 b ha; omega
      · omega
    · rw [eE j (by omega)] at hb'
      rcases hat with ha | ha
      · exact h5 j b (by omega) hb' ha
      · have := (h4 j (by omega)).lt b hb'; omega
  · intro i j b hij hj hb hb2
    have hb' : (sv (if i = n then ((A2, n2, c2) : Sv) else E i)).ownBlock = some b := hb
    have hb2' : (sv (if j = n then ((A2, n2, c2) : Sv) else E j)).ownBlock = some b := hb2
    rw [eE i (by omega)] at hb'
    by_cases e : j = n
    · subst e
      rw [eN] at hb2'
      have h7 := hx.lt b hb2'
      have h8 := (h4 i (by omega)).lt b hb'
      omega
    · rw [eE j (by omega)] at hb2'
      exact h6 i j b hij (by omega) hb' hb2'

/-- 'out = append(out, Term{..})' in a region that draws. -/
theorem step_appendT (w : World) {ops : Array Oper} {o : Oper} {a : Act} {K : Act → World → Prop} {Q : Exit → Act → World → Prop} {E0 : Prop} (hgd : o.guard = none) (s x : Operand)
    (ho : o.op = .call { callee := .builtin .append, args := #[s, x], argTypes := #[24, 24] })
    (lo hi : Nat) (A : Option Addr) (n c : Nat) (ts : List Tm) (lo2 hi2 : Nat) (A3 : Option Addr) (n3 c3 : Nat) (xs : List Int) (z : Int) (nb : Nat) (hs : a.eval s = .slice A n c) (hx : a.eval x = .slice (some ⟨nb, 0, none⟩) 1 1) (hblk : Blk w nb 68 #[.slice A3 n3 c3, .int .i64 z])
    (hown : OwnT w lo hi A n c ts) (hxs : Own w lo2 hi2 A3 n3 c3 xs) (hlo : lo ≤ lo2) (hd : hi ≤ lo2) (h1 : hi2 ≤ w.heap.size) (h2 : hi ≤ w.heap.size) (h3 : lo ≤ w.heap.size) (hn : n ≤ 1099511627776)
    (h : ∀ A' c' w', OwnT w' lo w'.heap.size A' (n + 1) c' (ts ++ [(xs, z)]) → Below lo w w' → K (a.put o.dst (.slice A' (n + 1) c')) w') :
    if Region.wanted o (yielded ops a.tmps) = true then Oper.wp Try.prog o a w K Q else E0 := by
  obtain ⟨i0, hi0, hz0, hz1, hz2⟩ := info_parts Try.infoTermZ
  obtain ⟨E, hE⟩ := hown.named
  refine step_append_lies w hgd s x 24 ho lo 68 i0 _ 2 32 Try.underlying24 hi0 hz0 hz1 hz2 rfl (by decide) _ n _ hs hE.2.1 ⟨nb, 0, none⟩ 1 1 [.slice A3 n3 c3, .int .i64 z] hx rfl
    (World.news_of_block hblk) (by intro u hu; simp at hu; rcases hu with rfl | rfl <;> rfl) (by omega) (by unfold maxLen; omega) (by omega) h3 w.heap.size rfl ?_
  intro g cap w1 ho1 hg1 hat hlt
  exact h _ _ w1 (hE.app z hxs hlo hd (H := w.heap.size) h1 h2 (Nat.le_refl _) ho1 hg1 (hat.imp id (fun h => by omega)) hlt) (grow_below hg1 h3 (fun k hk => (hE.2.1.lt k hk).1))
end Go.Proofs.Ytkfpacjncpifgaa
