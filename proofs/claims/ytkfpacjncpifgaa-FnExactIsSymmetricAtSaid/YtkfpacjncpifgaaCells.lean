/-
  Slices of cells (a row and a column): how they read, slices that a call owns, comparing, marking, holding. Conditions: lengths below 2^40.
-/
import Derived.Test.YtkfpacjncpifgaaTermMark
namespace Go.Proofs.Ytkfpacjncpifgaa
open Go.RowKit

abbrev Ce := Int × Int
def ce (cs : List Ce) (k : Nat) : Ce := cs.getD k (0, 0)
theorem ce_get {cs : List Ce} {k : Nat} (h : k < cs.length) : ce cs k = cs[k] := by simp [ce, List.getD, h]
theorem ce_ext {cs ds : List Ce} (hl : cs.length = ds.length) (h : ∀ j, j < cs.length → ce cs j = ce ds j) : cs = ds := by
  apply List.ext_getElem hl
  intro j h1 h2
  have := h j h1
  rwa [ce_get h1, ce_get h2] at this
theorem ce_set {cs : List Ce} {k j : Nat} (hk : k < cs.length) (t : Ce) : ce (cs.set k t) j = if j = k then t else ce cs j := by
  unfold ce
  rw [List.getD_eq_getElem?_getD, List.getD_eq_getElem?_getD, List.getElem?_set]
  by_cases e : k = j
  · subst e; simp [hk]
  · rw [if_neg e, if_neg (fun h => e h.symm)]
theorem ce_app_lt {cs : List Ce} {t : Ce} {k : Nat} (h : k < cs.length) : ce (cs ++ [t]) k = ce cs k := by simp [ce, List.getD, List.getElem?_append, h]
theorem ce_app_at {cs : List Ce} {t : Ce} : ce (cs ++ [t]) cs.length = t := by simp [ce, List.getD]
def cv (cs : List Ce) (k : Nat) : Value × Value := (.int .i64 (ce cs k).1, .int .i64 (ce cs k).2)

/-- The slice (A, n) reads as the cells cs. -/
def CS (w : World) (A : Option Addr) (n : Nat) (cs : List Ce) : Prop :=
  cs.length = n ∧ (0 < n → ∃ b o, A = some ⟨b, o, none⟩ ∧ b < w.heap.size ∧ ∀ k, k < n → w.cell? ⟨b, o + k * 2, none⟩ = some (.int .i64 (ce cs k).1) ∧ w.cell? ⟨b, o + k * 2 + 1, none⟩ = some (.int .i64 (ce cs k).2))
section
variable {w w' : World} {A : Option Addr} {n : Nat} {cs : List Ce}
theorem CS.at_ (h : CS w A n cs) {k : Nat} (hk : k < n) : ∃ b o, A = some ⟨b, o, none⟩ ∧ b < w.heap.size ∧ w.cell? ⟨b, o + k * 2, none⟩ = some (.int .i64 (ce cs k).1) ∧ w.cell? ⟨b, o + k * 2 + 1, none⟩ = some (.int .i64 (ce cs k).2) := by
  obtain ⟨b, o, e, hb, hc⟩ := h.2 (by omega)
  exact ⟨b, o, e, hb, hc k hk⟩
theorem CS.below {B : Nat} (h : CS w A n cs) (hb : Below B w w') (hB : w.heap.size ≤ B) : CS w' A n cs :=
  ⟨h.1, fun hn => by
    obtain ⟨b, o, e, hl, hc⟩ := h.2 hn
    have hs := hb.size
    exact ⟨b, o, e, by omega, fun k hk => ⟨(hb.cell (p := ⟨b, o + k * 2, none⟩) (by show b < B; omega)).trans (hc k hk).1, (hb.cell (p := ⟨b, o + k * 2 + 1, none⟩) (by show b < B; omega)).trans (hc k hk).2⟩⟩⟩
theorem CS.drawn (h : CS w A n cs) (hd : Drawn w w') : CS w' A n cs := by obtain ⟨m, rfl⟩ := hd; exact h
theorem CS.drewN (h : CS w A n cs) (k : Nat) : CS (w.drewN k) A n cs := h
theorem CS.range {b o k : Nat} {x y : Int} (h0 : w.cell? ⟨b, o + k * 2, none⟩ = some (.int .i64 x)) (h1 : w.cell? ⟨b, o + k * 2 + 1, none⟩ = some (.int .i64 y)) : w.rangeAt b (o + k * 2) [.int .i64 x, .int .i64 y] := by
  intro j u hj
  match j, hj with
  | 0, hj => simp at hj; subst hj; exact h0
  | 1, hj => simp at hj; subst hj; exact h1
end
/-- The slice (A, n, c) holds the cells cs in a block of the call's own between lo and hi (or is nil). -/
def OwnC (w : World) (lo hi : Nat) (A : Option Addr) (n c : Nat) (cs : List Ce) : Prop :=
  cs.length = n ∧ w.ownsRow lo 98 2 (.slice A n c) n (cells2 n (cv cs)) ∧ ∀ k, (Value.slice A n c).ownBlock = some k → k < hi
theorem rowc_eq {w : World} {lo : Nat} {v : Value} {n : Nat} {xs ys : List Value} (h : w.ownsRow lo 98 2 v n xs) (e : xs = ys) : w.ownsRow lo 98 2 v n ys := e ▸ h
section
variable {w w' : World} {lo hi n c : Nat} {A : Option Addr} {cs : List Ce}
theorem OwnC.len (h : OwnC w lo hi A n c cs) : cs.length = n := h.1
theorem OwnC.nil (w : World) (lo hi : Nat) : OwnC w lo hi none 0 0 [] := ⟨rfl, by simpa [cells2] using World.ownsRow_nil _ _ _ _, fun k hk => by simp [Value.ownBlock] at hk⟩
theorem OwnC.place (h : OwnC w lo hi A n c cs) (hn : 0 < n) : ∃ g, A = some ⟨g, 0, none⟩ ∧ lo ≤ g ∧ g < hi := by
  obtain ⟨g, cap, e, h1, _⟩ := h.2.1.form hn
  have hA : A = some ⟨g, 0, none⟩ := by injection e
  subst hA
  exact ⟨g, rfl, h1, h.2.2 g rfl⟩
theorem OwnC.si (h : OwnC w lo hi A n c cs) : CS w A n cs := by
  refine ⟨h.len, fun hn => ?_⟩
  obtain ⟨g, rfl, _, _⟩ := h.place hn
  refine ⟨g, 0, rfl, (h.2.1.lt g rfl).2, fun k hk => ⟨?_, ?_⟩⟩
  · rw [Nat.zero_add, h.2.1.cellAt (k * 2) (by omega), cells2_get0 _ hk]; rfl
  · rw [Nat.zero_add, h.2.1.cellAt (k * 2 + 1) (by omega), cells2_get1 _ hk]; rfl
theorem OwnC.below {B : Nat} (h : OwnC w lo hi A n c cs) (hb : Below B w w') (hB : hi ≤ B) : OwnC w' lo hi A n c cs := by
  refine ⟨h.1, ⟨h.2.1.1, ?_⟩, h.2.2⟩
  rcases h.2.1.2 with hn | ⟨g, cap, cur, e, hl, hg, rest⟩
  · exact .inl hn
  · have hlt := h.2.2 g (by rw [e]; rfl)
    exact .inr ⟨g, cap, cur, e, hl, (hb.block g (by omega)).trans hg, rest⟩
theorem OwnC.drawn (h : OwnC w lo hi A n c cs) (hd : Drawn w w') : OwnC w' lo hi A n c cs := h.below (hd.below hi) (Nat.le_refl _)
theorem OwnC.within {lo' hi' : Nat} (h : OwnC w lo hi A n c cs) (hw : Within lo' hi' w w') (hd : hi ≤ lo' ∨ hi' ≤ lo) : OwnC w' lo hi A n c cs := by
  refine ⟨h.1, ⟨h.2.1.1, ?_⟩, h.2.2⟩
  rcases h.2.1.2 with hn | ⟨g, cap, cur, e, hl, hg, rest⟩
  · exact .inl hn
  · have hlt := h.2.2 g (by rw [e]; rfl)
    have hsz := (h.2.1.lt g (by rw [e]; rfl)).2
    exact .inr ⟨g, cap, cur, e, hl, (hw.2.2.2.2 g hsz (by omega)).trans hg, rest⟩
theorem OwnC.wide {lo' hi' : Nat} (h : OwnC w lo hi A n c cs) (h1 : lo' ≤ lo) (h2 : hi ≤ hi') : OwnC w lo' hi' A n c cs := by
  refine ⟨h.1, ⟨h.2.1.1, ?_⟩, fun k hk => Nat.lt_of_lt_of_le (h.2.2 k hk) h2⟩
  rcases h.2.1.2 with hn | ⟨g, cap, cur, e, hl, rest⟩
  · exact .inl hn
  · exact .inr ⟨g, cap, cur, e, Nat.le_trans h1 hl, rest⟩
theorem OwnC.set1 {g k : Nat} (h : OwnC w lo hi (some ⟨g, 0, none⟩) n c cs) (hk : k < n) (x : Int) :
    OwnC (w.setCell ⟨g, k * 2, none⟩ (.int .i64 x)) lo hi (some ⟨g, 0, none⟩) n c (cs.set k (x, (ce cs k).2)) ∧ w.grownBy (w.setCell ⟨g, k * 2, none⟩ (.int .i64 x)) (some g) := by
  obtain ⟨h1, h2⟩ := h.2.1.stored (k * 2) (.int .i64 x)
  refine ⟨⟨by simpa using h.1, ?_, h.2.2⟩, h2⟩
  rw [cells2_set0 _ hk] at h1
  refine rowc_eq h1 (cells2_congr fun j hj => ?_)
  unfold cv
  rw [ce_set (by rw [h.1]; exact hk)]
  by_cases e : j = k
  · subst e; simp
  · simp [e]
theorem OwnC.set2 {g k : Nat} (h : OwnC w lo hi (some ⟨g, 0, none⟩) n c cs) (hk : k < n) (x : Int) :
    OwnC (w.setCell ⟨g, k * 2 + 1, none⟩ (.int .i64 x)) lo hi (some ⟨g, 0, none⟩) n c (cs.set k ((ce cs k).1, x)) ∧ w.grownBy (w.setCell ⟨g, k * 2 + 1, none⟩ (.int .i64 x)) (some g) := by
  obtain ⟨h1, h2⟩ := h.2.1.stored (k * 2 + 1) (.int .i64 x)
  refine ⟨⟨by simpa using h.1, ?_, h.2.2⟩, h2⟩
  rw [cells2_set1 _ hk] at h1
  refine rowc_eq h1 (cells2_congr fun j hj => ?_)
  unfold cv
  rw [ce_set (by rw [h.1]; exact hk)]
  by_cases e : j = k
  · subst e; simp
  · simp [e]
theorem OwnC.cells {g k : Nat} (h : OwnC w lo hi (some ⟨g, 0, none⟩) n c cs) (hk : k < n) :
    w.cell? ⟨g, k * 2, none⟩ = some (.int .i64 (ce cs k).1) ∧ w.cell? ⟨g, k * 2 + 1, none⟩ = some (.int .i64 (ce cs k).2) ∧ ∀ j, w.frozen? ⟨g, j, none⟩ = false := by
  refine ⟨?_, ?_, fun j => h.2.1.frozenAt j⟩
  · rw [h.2.1.cellAt (k * 2) (by omega), cells2_get0 _ hk]; rfl
  · rw [h.2.1.cellAt (k * 2 + 1) (by omega), cells2_get1 _ hk]; rfl
end
theorem OwnC.empty (w : World) : OwnC (w.alloc (.cells #[] 98)) w.heap.size (w.heap.size + 1) (some ⟨w.heap.size, 0, none⟩) 0 0 [] :=
  ⟨rfl, World.ownsRow_lit w #[] 0 (Nat.le_refl _) (Nat.zero_le _) rfl, fun k hk => by simp [Value.ownBlock] at hk; omega⟩
/-- What a call that makes a slice of cells hands back. -/
def FreshC (w w' : World) (e : Ending) (cs : List Ce) : Prop :=
  ∃ A n c, e = .returned (.slice A n c) ∧ OwnC w' w.heap.size w'.heap.size A n c cs ∧ Below w.heap.size w w'
theorem FreshC.nil_ret {w w' : World} (h : Below w.heap.size w w') : FreshC w w' (.returned (.slice none 0 0)) [] := ⟨none, 0, 0, rfl, OwnC.nil _ _ _, h⟩

theorem Try.infoCellZ : (Try.prog.info? 98).map (fun i => (i.zero, i.size, i.bytes)) = some (some (.agg #[.int .i64 0, .int .i64 0]), 2, 16) := by kernel_rfl
theorem Try.infoCell : (Try.prog.info? 98).map (·.size) = some 2 := by kernel_rfl
/-- 'out = append(out, Cell{..})' on a slice of the call's own. -/
theorem wpList_appendC {ops : Array Oper} {rest : List Oper} {o : Oper} {a : Act} {w : World} {Q : Exit → Act → World → Prop} (hgd : o.guard = none) (s x : Operand)
    (ho : o.op = .call { callee := .builtin .append, args := #[s, x], argTypes := #[46, 46] })
    (lo : Nat) (A : Option Addr) (n c : Nat) (cs : List Ce) (p q : Int) (hs : a.eval s = .slice A n c) (hx : a.eval x = .slice (some ⟨w.heap.size, 0, none⟩) 1 1)
    (hown : OwnC w lo w.heap.size A n c cs) (hlo : lo ≤ w.heap.size) (hn : n ≤ 1099511627776)
    (hK : ∀ A' c' w', OwnC w' lo w'.heap.size A' (n + 1) c' (cs ++ [(p, q)]) → Below lo w w' → w.grownBy w' (Value.slice A n c).ownBlock → (∀ g, (Value.slice A' (n + 1) c').ownBlock = some g → (Value.slice A n c).ownBlock = some g ∨ w.heap.size ≤ g) → wpList Try.prog ops Q rest (a.put o.dst (.slice A' (n + 1) c')) w') :
    wpList Try.prog ops Q (o :: rest) a (w.alloc (.cells #[.int .i64 p, .int .i64 q] 98)) := by
  obtain ⟨i0, hi, hz0, hz1, hz2⟩ := info_parts Try.infoCellZ
  refine Go.wpList_append_own_at _ hgd s x 46 ho lo 98 i0 (.agg #[.int .i64 0, .int .i64 0]) 2 16 Try.underlying46 hi hz0 hz1 hz2 rfl (by decide) _ _ _ hs (hown.2.1.alloc _) ⟨w.heap.size, 0, none⟩ 1 1 [.int .i64 p, .int .i64 q] hx rfl ?_ ?_ (by unfold maxLen; omega) (by omega) (by simp; omega) ?_
  · intro j u hj
    rw [add_pt, Nat.zero_add, (Blk.new w 98 #[.int .i64 p, .int .i64 q]).cell j]
    simpa using hj
  · intro u hu
    simp at hu
    rcases hu with rfl | rfl <;> rfl
  · intro v' w1 ho1 hg1 _ hat
    rw [cells2_app] at ho1
    obtain ⟨g, cap, rfl, _, _⟩ := ho1.form (by omega)
    have hg2 : w.grownBy w1 (Value.slice A n c).ownBlock := (World.grownBy_alloc w _ _).trans hg1
    refine hK _ _ w1 ⟨by simp [hown.1], rowc_eq ho1 (cells2_congr fun j hj => ?_), fun k hk => (ho1.lt k hk).2⟩ (grow_below hg2 hlo (fun k hk => (hown.2.1.lt k hk).1)) hg2 (fun b hb => by
      rcases hat with h | h
      · exact .inl (h ▸ hb)
      · right; rw [h] at hb; injection hb with hb; rw [← hb]; simp)
    unfold cv
    by_cases e : j = n
    · subst e
      rw [if_pos rfl]
      have := @ce_app_at cs (p, q)
      rw [hown.1] at this
      rw [this]
    · rw [if_neg e, ce_app_lt (by rw [hown.1]; omega)]

set_option maxHeartbeats 400000 in
theorem eqCell_any (x y x' y' : Int) (w : World) :
    Calls Try.prog 100 #[.agg #[.int .i64 x, .int .i64 y], .agg #[.int .i64 x', .int .i64 y']] w fun e w' => e = .returned (.bool (decide ((x, y) = (x', y')))) ∧ Below w.heap.size w w' := by
  by_cases h1 : x = x'
  · subst h1
    by_cases h2 : y = y'
    · subst h2
      go_enter Try.func100, Try.ntmps100
      go_wp2
      go_ret
      exact ⟨ret_bool (by simp), by go_grown⟩
    · have hb : (y != y') = true := by simpa using h2
      have H2 := Lib.hid h2
      clear h2
      go_enter Try.func100, Try.ntmps100
      go_wp2
      go_ret
      exact ⟨ret_bool (by simp [H2.out]), by go_grown⟩
  · have hb : (x != x') = true := by simpa using h1
    have H1 := Lib.hid h1
    clear h1
    go_enter Try.func100, Try.ntmps100
    go_wp2
    go_ret
    exact ⟨ret_bool (by simp [H1.out]), by go_grown⟩
/-- Equality of two lists of cells as a Bool. -/
def eqCs (ts us : List Ce) : Bool := decide (ts = us)
theorem eqCs_self (ts : List Ce) : eqCs ts ts = true := by simp [eqCs]
theorem eqCs_len {ts us : List Ce} (h : ts.length ≠ us.length) : eqCs ts us = false := by
  simp only [eqCs, decide_eq_false_iff_not]; intro e; exact h (by rw [e])
theorem eqCs_all {ts us : List Ce} (hl : ts.length = us.length) (h : ∀ j, j < ts.length → ce ts j = ce us j) : eqCs ts us = true := by
  simp only [eqCs, decide_eq_true_eq]
  exact ce_ext hl h
theorem eqCs_ne {ts us : List Ce} {k : Nat} (h : ce ts k ≠ ce us k) : eqCs ts us = false := by
  simp only [eqCs, decide_eq_false_iff_not]; intro e; exact h (by rw [e])

set_option maxHeartbeats 1600000 in
theorem eqCellS_any (A A' : Option Addr) (n c n' c' : Nat) (ts us : List Ce) (w : World) (hs : CS w A n ts) (hs' : CS w A' n' us) (hn : n ≤ 1099511627776) (hn' : n' ≤ 1099511627776) :
    Calls Try.prog 46 #[.slice A n c, .slice A' n' c'] w fun e w' => e = .returned (.bool (eqCs ts us)) ∧ Below w.heap.size w w' := by
  have HL := Lib.hid (And.intro hs.1 hs'.1)
  by_cases hnn : n = n'
  · subst hnn
    go_enter Try.func46, Try.ntmps46
    go_wp2
    go_loopw [5] (fun i wr => ∃ k : Nat, k ≤ n ∧ i = .int .i64 k ∧ (∀ j, j < k → ce ts j = ce us j) ∧ Below w.heap.size w wr)
      (fun i _ => n - (intOf i).toNat)
    case atStart => exact ⟨0, Nat.zero_le _, rfl, fun j hj => absurd hj (by omega), Below.refl _ _⟩
    case round =>
      obtain ⟨k, hk, rfl, hall, hbel⟩ := hrel
      have HA := Lib.hid hall
      have HB := Lib.hid hbel
      clear hall
      by_cases hlt : k < n
      · obtain ⟨b, o, rfl, hb, hc0, hc1⟩ := (hs.below hbel (by omega)).at_ hlt
        obtain ⟨b', o', rfl, hb', hc0', hc1'⟩ := (hs'.below hbel (by omega)).at_ hlt
        have hlI : (k : Int) < (n : Int) := by omega
        have R1 := CS.range hc0 hc1
        have R2 := CS.range hc0' hc1'
        have LD1 : ∀ w', AfterT wr w' → w'.rangeAt b (o + k * 2) [.int .i64 (ce ts k).1, .int .i64 (ce ts k).2] := fun w' hw' j v hj => by
          rw [Below.cell hw' (p := ⟨b, o + k * 2 + j, none⟩) hb]; exact R1 j v hj
        have LD2 : ∀ w', AfterT wr w' → w'.rangeAt b' (o' + k * 2) [.int .i64 (ce us k).1, .int .i64 (ce us k).2] := fun w' hw' j v hj => by
          rw [Below.cell hw' (p := ⟨b', o' + k * 2 + j, none⟩) hb']; exact R2 j v hj
        have call : ∀ w', AfterT wr w' → Calls Try.prog 100 #[.agg #[.int .i64 (ce ts k).1, .int .i64 (ce ts k).2], .agg #[.int .i64 (ce us k).1, .int .i64 (ce us k).2]] w' (fun e w'' => e = .returned (.bool (decide (ce ts k = ce us k))) ∧ AfterT wr w'') := fun w' hw' =>
          (eqCell_any _ _ _ _ w').mono fun e w'' ⟨he, hb⟩ => ⟨he, Below.trans hw' (hb.mono hw'.size)⟩
        obtain ⟨x1, hx1⟩ : ∃ x, x = (ce ts k).1 := ⟨_, rfl⟩
        obtain ⟨x2, hx2⟩ : ∃ x, x = (ce ts k).2 := ⟨_, rfl⟩
        obtain ⟨y1, hy1⟩ : ∃ y, y = (ce us k).1 := ⟨_, rfl⟩
        obtain ⟨y2, hy2⟩ : ∃ y, y = (ce us k).2 := ⟨_, rfl⟩
        obtain ⟨q, hq⟩ : ∃ q, q = decide (ce ts k = ce us k) := ⟨_, rfl⟩
        rw [← hx1, ← hx2] at LD1 call
        rw [← hy1, ← hy2] at LD2 call
        rw [← hq] at call
        have HQ := Lib.hid hq
        have CA := Lib.hid call
        have L1 := Lib.hid LD1
        have L2 := Lib.hid LD2
        clear hc0 hc1 hc0' hc1' hs hs' hbel R1 R2 call LD1 LD2 hx1 hx2 hy1 hy2 hq
        go_wp2_with fail
        refine tq_class (AfterT wr) (by kernel_rfl) (by kernel_rfl) (Below.refl _ _).drew ?_
        refine tq_move rfl _ rfl ?_
        refine tq_move rfl _ rfl ?_
        refine wpQuiet_step (fun K hK => ?_)
        go_simp
        refine ⟨.pointer (some ⟨b, o + k * 2, none⟩), fun w' _ => rfl, hK _ ?_⟩
        clear hK K
        refine tq_load rfl 98 (.tmp 19) rfl b (o + k * 2) rfl [.int .i64 x1, .int .i64 x2] _ L1.out Try.underlying98 rfl Try.infoCell ?_
        refine tq_move rfl _ rfl ?_
        refine tq_move rfl _ rfl ?_
        refine wpQuiet_step (fun K hK => ?_)
        go_simp
        refine ⟨.pointer (some ⟨b', o' + k * 2, none⟩), fun w' _ => rfl, hK _ ?_⟩
        clear hK K
        refine tq_load rfl 98 (.tmp 23) rfl b' (o' + k * 2) rfl [.int .i64 y1, .int .i64 y2] _ L2.out Try.underlying98 rfl Try.infoCell ?_
        refine wpQuiet_step (fun K hK => ?_)
        go_simp
        refine ⟨.bool q, fun w' hw' => CA.out w' hw', hK _ ?_⟩
        clear hK K
        refine wpQuiet_step (fun K hK => ?_)
        go_simp
        refine ⟨.bool (!q), fun w' _ => rfl, hK _ ?_⟩
        clear hK K
        refine wpQuiet_nil ?_
        intro w5 hw5
        have HB5 := Lib.hid (HB.out.trans (Below.mono hw5 HB.out.size))
        clear hw5 L1 L2 CA
        cases q with
        | true =>
          go_wp2
          go_roundw
          case rel => exact ⟨k + 1, by omega, by go_num, fun j hj => by
            rcases Nat.lt_or_ge j k with h | h
            · exact HA.out j h
            · obtain rfl : j = k := by omega
              exact of_decide_eq_true HQ.out.symm, HB5.out⟩
          case measure => simp [intOf]; omega
        | false =>
          go_wp2
          go_ret
          exact ⟨ret_bool (eqCs_ne (k := k) (of_decide_eq_false HQ.out.symm)).symm, HB5.out⟩
      · have hkn : k = n := by omega
        subst hkn
        go_wp2
        go_ret
        exact ⟨ret_bool (eqCs_all (by have := HL.out; omega) (by rw [HL.out.1]; exact HA.out)).symm, HB.out⟩
  · have hne' : ¬ (n : Int) = (n' : Int) := by omega
    go_enter Try.func46, Try.ntmps46
    go_wp2
    go_ret
    exact ⟨ret_bool (eqCs_len (by have := HL.out; omega)).symm, Below.refl _ _⟩

/-- What marking has written after k cells. -/
def mixC (cs : List Ce) (q : Int) (k : Nat) : List Ce := (List.range cs.length).map fun j => if j < k then (q + 2 * (j : Int), q + 2 * (j : Int) + 1) else ce cs j
theorem mixC_len (cs : List Ce) (q : Int) (k : Nat) : (mixC cs q k).length = cs.length := by simp [mixC]
theorem mixC_ce {cs : List Ce} {q : Int} {k j : Nat} (h : j < cs.length) : ce (mixC cs q k) j = if j < k then (q + 2 * (j : Int), q + 2 * (j : Int) + 1) else ce cs j := by
  rw [ce_get (by rw [mixC_len]; exact h)]; simp [mixC]
theorem mixC_zero (cs : List Ce) (q : Int) : mixC cs q 0 = cs := ce_ext (mixC_len _ _ _) fun j hj => by rw [mixC_ce (by rwa [mixC_len] at hj), if_neg (by omega)]
theorem mixC_succ {cs : List Ce} {q : Int} {k : Nat} (h : k < cs.length) : (mixC cs q k).set k (q + 2 * (k : Int), q + 2 * (k : Int) + 1) = mixC cs q (k + 1) := by
  refine ce_ext (by simp [mixC_len]) fun j hj => ?_
  simp [mixC_len] at hj
  rw [ce_set (by rw [mixC_len]; exact h), mixC_ce hj, mixC_ce hj]
  by_cases e : j = k
  · subst e; rw [if_pos rfl, if_pos (by omega)]
  · rw [if_neg e]
    by_cases h1 : j < k
    · rw [if_pos h1, if_pos (by omega)]
    · rw [if_neg h1, if_neg (by omega)]

set_option maxHeartbeats 800000 in
theorem markCellS_own (g n c lo hi : Nat) (cs : List Ce) (q : Int) (w : World) (hs : OwnC w lo hi (some ⟨g, 0, none⟩) n c cs) (hn : n ≤ 1099511627776) (hq : 0 ≤ q) (hq' : q ≤ 1099511627776) (hg : lo ≤ g ∧ g < hi) :
    Calls Try.prog 47 #[.slice (some ⟨g, 0, none⟩) n c, .int .i64 q] w fun e w' => e = .returned (.int .i64 (q + 2 * (n : Int))) ∧ OwnC w' lo hi (some ⟨g, 0, none⟩) n c (mixC cs q n) ∧ Within lo hi w w' := by
  have HL := Lib.hid hs.len
  go_enter Try.func47, Try.ntmps47
  go_wp2
  go_loopw [1, 5] (fun p i wr => ∃ k : Nat, k ≤ n ∧ i = .int .i64 k ∧ p = .int .i64 (q + 2 * (k : Int)) ∧ OwnC wr lo hi (some ⟨g, 0, none⟩) n c (mixC cs q k) ∧ Within lo hi w wr)
    (fun _ i _ => n - (intOf i).toNat)
  case atStart => exact ⟨0, Nat.zero_le _, rfl, by simp, by rw [mixC_zero]; exact hs, Within.refl _ _ _⟩
  case round =>
    obtain ⟨k, hk, rfl, rfl, hown, hwi⟩ := hrel
    clear hs
    by_cases hlt : k < n
    · have hlI : (k : Int) < (n : Int) := by omega
      obtain ⟨hc0, hc1, hfz⟩ := hown.cells hlt
      have hf0 := hfz (k * 2)
      obtain ⟨h1, g1⟩ := hown.set1 hlt (q + 2 * (k : Int))
      obtain ⟨h2, g2⟩ := h1.set2 hlt (q + 2 * (k : Int) + 1)
      obtain ⟨_, hd1, hfz1⟩ := h1.cells hlt
      have hf1 := hfz (k * 2 + 1)
      rw [ce_set (by rw [mixC_len, HL.out]; exact hlt), if_pos rfl, List.set_set, mixC_succ (by rw [HL.out]; exact hlt)] at h2
      have HO := Lib.hid h2
      have HW := Lib.hid (hwi.trans ((Within.of_grown g1 (fun b hb => by injection hb with hb; subst hb; exact hg)).trans (Within.of_grown g2 (fun b hb => by injection hb with hb; subst hb; exact hg))))
      clear h1 h2 g1 g2 hown hwi hfz hfz1 hd1
      obtain ⟨z, hz⟩ : ∃ z, z = q + 2 * (k : Int) := ⟨_, rfl⟩
      have hz0 : 0 ≤ z := by omega
      have hz1 : z ≤ 4398046511104 := by omega
      have HZ := Lib.hid hz
      rw [← hz] at HO HW ⊢
      clear hz
      go_wp2
      go_roundw
      case rel => exact ⟨k + 1, by omega, by go_num, by have := HZ.out; congr 1; omega, HO.out, HW.out⟩
      case measure => simp [intOf]; omega
    · have hkn : k = n := by omega
      subst hkn
      go_wp2
      go_ret
      exact ⟨rfl, hown, hwi⟩
set_option maxHeartbeats 400000 in
theorem markCellS_any (A : Option Addr) (n c lo hi : Nat) (cs : List Ce) (q : Int) (w : World) (hs : OwnC w lo hi A n c cs) (hn : n ≤ 1099511627776) (hq : 0 ≤ q) (hq' : q ≤ 1099511627776) :
    Calls Try.prog 47 #[.slice A n c, .int .i64 q] w fun e w' => e = .returned (.int .i64 (q + 2 * (n : Int))) ∧ OwnC w' lo hi A n c (mixC cs q n) ∧ Within lo hi w w' := by
  by_cases h0 : 0 < n
  · obtain ⟨g, rfl, h1, h2⟩ := hs.place h0
    exact markCellS_own g n c lo hi cs q w hs hn hq hq' ⟨h1, h2⟩
  · have hz : n = 0 := by omega
    subst hz
    have hx : cs = [] := List.eq_nil_of_length_eq_zero hs.len
    subst hx
    have HS := Lib.hid hs
    clear hs
    go_enter Try.func47, Try.ntmps47
    go_wp2
    refine wp_loop_rounds 1 ?_
    rw [rounds_succ]
    go_wp2
    go_ret
    exact ⟨by simp, HS.out, Within.refl _ _ _⟩
set_option maxHeartbeats 800000 in
theorem heldCellS_yes (A : Option Addr) (n c : Nat) (cs : List Ce) (q : Int) (w : World) (hl : cs.length = n) (hs : CS w A n (mixC cs q n)) (hn : n ≤ 1099511627776) (hq : 0 ≤ q) (hq' : q ≤ 1099511627776) :
    Calls Try.prog 48 #[.slice A n c, .int .i64 q] w fun e w' => e = .returned (.int .i64 (q + 2 * (n : Int))) ∧ Drawn w w' := by
  have HL := Lib.hid hl
  clear hl
  go_enter Try.func48, Try.ntmps48
  go_wp2
  go_loopw [1, 5] (fun p i wr => ∃ k : Nat, k ≤ n ∧ i = .int .i64 k ∧ p = .int .i64 (q + 2 * (k : Int)) ∧ Drawn w wr)
    (fun _ i _ => n - (intOf i).toNat)
  case atStart => exact ⟨0, Nat.zero_le _, rfl, by simp, Drawn.refl _⟩
  case round =>
    obtain ⟨k, hk, rfl, rfl, hD⟩ := hrel
    have HD := Lib.hid hD
    have hcs := hs.drawn hD
    clear hs hD
    by_cases hlt : k < n
    · have hlI : (k : Int) < (n : Int) := by omega
      obtain ⟨b, o, rfl, hb, hc0, hc1⟩ := hcs.at_ hlt
      rw [mixC_ce (by rw [HL.out]; exact hlt), if_pos hlt] at hc0 hc1
      dsimp only at hc0 hc1
      clear hcs
      obtain ⟨z, hz⟩ : ∃ z, z = q + 2 * (k : Int) := ⟨_, rfl⟩
      have hz0 : 0 ≤ z := by omega
      have hz1 : z ≤ 4398046511104 := by omega
      have HZ := Lib.hid hz
      rw [← hz] at hc0 hc1 ⊢
      clear hz
      go_wp2
      go_roundw
      case rel => exact ⟨k + 1, by omega, by go_num, by have := HZ.out; congr 1; omega, HD.out⟩
      case measure => simp [intOf]; omega
    · have hkn : k = n := by omega
      subst hkn
      go_wp2
      go_ret
      exact ⟨rfl, HD.out⟩
end Go.Proofs.Ytkfpacjncpifgaa
