/-
  Texts TermEq to MtxFrame, merged. Conditions: as each says.
-/
import Derived.RegionTactic
import Derived.BigRegion
import Derived.ProofKit
import Derived.OpenShut
import Derived.ChangeOld
import Derived.Test.YtbkhibojbakckaaPkB2
/-
  The helpers of the exact laws at terms: measuring and comparing. Conditions: lengths below 2^40.
-/




namespace Go.Proofs.Ytbkhibojbakckaa
open Go.RowKit

section
variable {P : Program} {ops : Array Oper} {C : World → Prop} {Q : Act → Prop} {a : Act} {o : Oper} {rest : List Oper}
theorem tq_class {id : Nat} {Q : Exit → Act → World → Prop} {w : World} {l : List Oper} (C : World → Prop) (hm : P.follows .mixedOrders = true) (hB : Region.lexB .any l.toArray = true) (hC : C w.drew)
    (h : wpQuiet P l.toArray C (fun a' => ∀ w', C w' → Q .normal a' w') l a) : (Code.region id l.toArray true).wp P Q a w :=
  wp_region_quiet hm hB hC (by simpa using h)
theorem tq_move (hg : o.guard = none) (x : Operand) (ho : o.op = .move x) (h : wpQuiet P ops C Q rest (a.put o.dst (a.eval x))) : wpQuiet P ops C Q (o :: rest) a := by
  refine wpQuiet_step fun K hK => ?_
  simp only [Region.wanted, hg, if_true]
  refine ⟨a.eval x, fun w _ => ?_, hK _ h⟩
  unfold Oper.quietAt execOp
  simp only [ho]
  exact ⟨rfl, rfl⟩
theorem tq_load (hg : o.guard = none) (ty : TypeId) (x : Operand) (ho : o.op = .load ty x) (b off : Nat) (hx : a.eval x = .pointer (some ⟨b, off, none⟩)) (cs : List Value) (d : TypeDesc)
    (hb : ∀ w, C w → w.rangeAt b off cs) (hu : P.underlying ty = some d) (hd : d.isRow = true) (hi : (P.info? ty).map (·.size) = some cs.length) (h : wpQuiet P ops C Q rest (a.put o.dst (.agg cs.toArray))) : wpQuiet P ops C Q (o :: rest) a := by
  refine wpQuiet_step fun K hK => ?_
  simp only [Region.wanted, hg, if_true]
  refine ⟨.agg cs.toArray, fun w hw => ?_, hK _ h⟩
  unfold Oper.quietAt execOp
  simp only [ho, hx, Instr.loadAt, Instr.sureAddr, Sem.run_bind, Sem.run_pure, Result.andThen_ok, run_loadVar_mid w b off ty cs d (hb w hw) hu hd hi]
  exact ⟨rfl, rfl⟩
end
/-- Worlds in which nothing has turned that was there. -/
def AfterT (wr w' : World) : Prop := Below wr.heap.size wr w'

/-- Equality of two lists of terms as a Bool. -/
def eqTs (ts us : List Tm) : Bool := decide (ts = us)
theorem eqTs_self (ts : List Tm) : eqTs ts ts = true := by simp [eqTs]
theorem eqTs_len {ts us : List Tm} (h : ts.length ≠ us.length) : eqTs ts us = false := by
  simp only [eqTs, decide_eq_false_iff_not]; intro e; exact h (by rw [e])
theorem eqTs_all {ts us : List Tm} (hl : ts.length = us.length) (h : ∀ j, j < ts.length → tm ts j = tm us j) : eqTs ts us = true := by
  simp only [eqTs, decide_eq_true_eq]
  exact tm_ext hl h
theorem eqTs_ne {ts us : List Tm} {k : Nat} (h : tm ts k ≠ tm us k) : eqTs ts us = false := by
  simp only [eqTs, decide_eq_false_iff_not]; intro e; exact h (by rw [e])
theorem TS.range {w : World} {b o k : Nat} {v : Value} {x : Int} (h0 : w.cell? ⟨b, o + k * 2, none⟩ = some v) (h1 : w.cell? ⟨b, o + k * 2 + 1, none⟩ = some (.int .i64 x)) : w.rangeAt b (o + k * 2) [v, .int .i64 x] := by
  intro j u hj
  match j, hj with
  | 0, hj => simp at hj; subst hj; exact h0
  | 1, hj => simp at hj; subst hj; exact h1

end Go.Proofs.Ytbkhibojbakckaa

/-
  The helpers of the exact laws at terms: marking, holding. Conditions: lengths below 2^40.
-/

namespace Go.Proofs.Ytbkhibojbakckaa
open Go.RowKit

/-- What marking writes, from q on. -/
def marksT : List Tm → Int → List Tm
  | [], _ => []
  | t :: r, q => (marks t.1.length q, q + (t.1.length : Int)) :: marksT r (q + (t.1.length : Int) + 1)
/-- The number behind the last mark. -/
def endT : List Tm → Int → Int
  | [], q => q
  | t :: r, q => endT r (q + (t.1.length : Int) + 1)
theorem marksT_len : ∀ (ts : List Tm) (q : Int), (marksT ts q).length = ts.length
  | [], _ => rfl
  | t :: r, q => by simp [marksT, marksT_len r]
theorem endT_app : ∀ (ts us : List Tm) (q : Int), endT (ts ++ us) q = endT us (endT ts q)
  | [], _, _ => rfl
  | _ :: r, us, _ => endT_app r us _
theorem marksT_app : ∀ (ts us : List Tm) (q : Int), marksT (ts ++ us) q = marksT ts q ++ marksT us (endT ts q)
  | [], _, _ => rfl
  | t :: r, us, q => by show _ :: marksT (r ++ us) _ = _ :: (_ ++ _); rw [marksT_app r us]; rfl
def mixT (ts : List Tm) (q : Int) (k : Nat) : List Tm := marksT (ts.take k) q ++ ts.drop k
theorem mixT_zero (ts : List Tm) (q : Int) : mixT ts q 0 = ts := by simp [mixT, marksT]
theorem mixT_all (ts : List Tm) (q : Int) : mixT ts q ts.length = marksT ts q := by simp [mixT]
theorem mixT_tm {ts : List Tm} {q : Int} {k : Nat} (h : k < ts.length) : tm (mixT ts q k) k = tm ts k := by
  unfold mixT tm
  rw [List.getD_eq_getElem?_getD, List.getD_eq_getElem?_getD, List.getElem?_append_right (by rw [marksT_len]; simp; omega), marksT_len]
  simp [Nat.min_eq_left (Nat.le_of_lt h)]
theorem endT_succ {ts : List Tm} {q : Int} {k : Nat} (h : k < ts.length) : endT (ts.take (k + 1)) q = endT (ts.take k) q + ((tm ts k).1.length : Int) + 1 := by
  rw [take_tm h, endT_app]; rfl
theorem mixT_succ {ts : List Tm} {q : Int} {k : Nat} (h : k < ts.length) :
    (mixT ts q k).set k (marks (tm ts k).1.length (endT (ts.take k) q), endT (ts.take k) q + ((tm ts k).1.length : Int)) = mixT ts q (k + 1) := by
  unfold mixT
  have hl : (marksT (ts.take k) q).length = k := by rw [marksT_len]; simp; omega
  rw [List.set_append_right _ _ (by omega), hl, Nat.sub_self, List.drop_eq_getElem_cons h, List.set_cons_zero, take_tm h, marksT_app, List.append_assoc]
  rfl
theorem marksT_tm {ts : List Tm} {q : Int} {k : Nat} (h : k < ts.length) : tm (marksT ts q) k = (marks (tm ts k).1.length (endT (ts.take k) q), endT (ts.take k) q + ((tm ts k).1.length : Int)) := by
  have e : marksT ts q = marksT (ts.take k) q ++ marksT (ts.drop k) (endT (ts.take k) q) := by rw [← marksT_app, List.take_append_drop]
  rw [e]
  unfold tm
  rw [List.getD_eq_getElem?_getD, List.getElem?_append_right (by rw [marksT_len]; simp; omega), marksT_len]
  rw [List.drop_eq_getElem_cons h]
  simp [marksT, Nat.min_eq_left (Nat.le_of_lt h), List.getD, h]

end Go.Proofs.Ytbkhibojbakckaa

/-
  Slices of cells (a row and a column): how they read, slices that a call owns, comparing, marking, holding. Conditions: lengths below 2^40.
-/

namespace Go.Proofs.Ytbkhibojbakckaa
open Go.RowKit

abbrev Ce := Int × Int
def ce (cs : List Ce) (k : Nat) : Ce := cs.getD k (0, 0)
theorem ce_get {cs : List Ce} {k : Nat} (h : k < cs.length) : ce cs k = cs[k] := by simp [ce, List.getD, h]
theorem ce_ext {cs ds : List Ce} (hl : cs.length = ds.length) (h : ∀ j, j < cs.length → ce cs j = ce ds j) : cs = ds := by
  apply List.ext_getElem hl
  intro j h1 h2
  have := h j h1
  rwa [ce_get h1, ce_get h2] at this
theorem ce_set {cs : List Ce} {k j : Nat} (hk : k < cs.length) (t : Ce) : ce (cs.set k t) j = if j = k then t else ce cs j := by
  unfold ce
  rw [List.getD_eq_getElem?_getD, List.getD_eq_getElem?_getD, List.getElem?_set]
  by_cases e : k = j
  · subst e; simp [hk]
  · rw [if_neg e, if_neg (fun h => e h.symm)]
theorem ce_app_lt {cs : List Ce} {t : Ce} {k : Nat} (h : k < cs.length) : ce (cs ++ [t]) k = ce cs k := by simp [ce, List.getD, List.getElem?_append, h]
theorem ce_app_at {cs : List Ce} {t : Ce} : ce (cs ++ [t]) cs.length = t := by simp [ce, List.getD]
def cv (cs : List Ce) (k : Nat) : Value × Value := (.int .i64 (ce cs k).1, .int .i64 (ce cs k).2)

/-- The slice (A, n) reads as the cells cs. -/
def CS (w : World) (A : Option Addr) (n : Nat) (cs : List Ce) : Prop :=
  cs.length = n ∧ (0 < n → ∃ b o, A = some ⟨b, o, none⟩ ∧ b < w.heap.size ∧ ∀ k, k < n → w.cell? ⟨b, o + k * 2, none⟩ = some (.int .i64 (ce cs k).1) ∧ w.cell? ⟨b, o + k * 2 + 1, none⟩ = some (.int .i64 (ce cs k).2))
section
variable {w w' : World} {A : Option Addr} {n : Nat} {cs : List Ce}
theorem CS.at_ (h : CS w A n cs) {k : Nat} (hk : k < n) : ∃ b o, A = some ⟨b, o, none⟩ ∧ b < w.heap.size ∧ w.cell? ⟨b, o + k * 2, none⟩ = some (.int .i64 (ce cs k).1) ∧ w.cell? ⟨b, o + k * 2 + 1, none⟩ = some (.int .i64 (ce cs k).2) := by
  obtain ⟨b, o, e, hb, hc⟩ := h.2 (by omega)
  exact ⟨b, o, e, hb, hc k hk⟩
theorem CS.below {B : Nat} (h : CS w A n cs) (hb : Below B w w') (hB : w.heap.size ≤ B) : CS w' A n cs :=
  ⟨h.1, fun hn => by
    obtain ⟨b, o, e, hl, hc⟩ := h.2 hn
    have hs := hb.size
    exact ⟨b, o, e, by omega, fun k hk => ⟨(hb.cell (p := ⟨b, o + k * 2, none⟩) (by show b < B; omega)).trans (hc k hk).1, (hb.cell (p := ⟨b, o + k * 2 + 1, none⟩) (by show b < B; omega)).trans (hc k hk).2⟩⟩⟩
theorem CS.drawn (h : CS w A n cs) (hd : Drawn w w') : CS w' A n cs := by obtain ⟨m, rfl⟩ := hd; exact h
theorem CS.drewN (h : CS w A n cs) (k : Nat) : CS (w.drewN k) A n cs := h
theorem CS.range {b o k : Nat} {x y : Int} (h0 : w.cell? ⟨b, o + k * 2, none⟩ = some (.int .i64 x)) (h1 : w.cell? ⟨b, o + k * 2 + 1, none⟩ = some (.int .i64 y)) : w.rangeAt b (o + k * 2) [.int .i64 x, .int .i64 y] := by
  intro j u hj
  match j, hj with
  | 0, hj => simp at hj; subst hj; exact h0
  | 1, hj => simp at hj; subst hj; exact h1
end
/-- The slice (A, n, c) holds the cells cs in a block of the call's own between lo and hi (or is nil). -/
def OwnC (w : World) (lo hi : Nat) (A : Option Addr) (n c : Nat) (cs : List Ce) : Prop :=
  cs.length = n ∧ w.ownsRow lo 69 2 (.slice A n c) n (cells2 n (cv cs)) ∧ ∀ k, (Value.slice A n c).ownBlock = some k → k < hi
theorem rowc_eq {w : World} {lo : Nat} {v : Value} {n : Nat} {xs ys : List Value} (h : w.ownsRow lo 69 2 v n xs) (e : xs = ys) : w.ownsRow lo 69 2 v n ys := e ▸ h
section
variable {w w' : World} {lo hi n c : Nat} {A : Option Addr} {cs : List Ce}
theorem OwnC.len (h : OwnC w lo hi A n c cs) : cs.length = n := h.1
theorem OwnC.nil (w : World) (lo hi : Nat) : OwnC w lo hi none 0 0 [] := ⟨rfl, by simpa [cells2] using World.ownsRow_nil _ _ _ _, fun k hk => by simp [Value.ownBlock] at hk⟩
theorem OwnC.place (h : OwnC w lo hi A n c cs) (hn : 0 < n) : ∃ g, A = some ⟨g, 0, none⟩ ∧ lo ≤ g ∧ g < hi := by
  obtain ⟨g, cap, e, h1, _⟩ := h.2.1.form hn
  have hA : A = some ⟨g, 0, none⟩ := by injection e
  subst hA
  exact ⟨g, rfl, h1, h.2.2 g rfl⟩
theorem OwnC.si (h : OwnC w lo hi A n c cs) : CS w A n cs := by
  refine ⟨h.len, fun hn => ?_⟩
  obtain ⟨g, rfl, _, _⟩ := h.place hn
  refine ⟨g, 0, rfl, (h.2.1.lt g rfl).2, fun k hk => ⟨?_, ?_⟩⟩
  · rw [Nat.zero_add, h.2.1.cellAt (k * 2) (by omega), cells2_get0 _ hk]; rfl
  · rw [Nat.zero_add, h.2.1.cellAt (k * 2 + 1) (by omega), cells2_get1 _ hk]; rfl
theorem OwnC.below {B : Nat} (h : OwnC w lo hi A n c cs) (hb : Below B w w') (hB : hi ≤ B) : OwnC w' lo hi A n c cs := by
  refine ⟨h.1, ⟨h.2.1.1, ?_⟩, h.2.2⟩
  rcases h.2.1.2 with hn | ⟨g, cap, cur, e, hl, hg, rest⟩
  · exact .inl hn
  · have hlt := h.2.2 g (by rw [e]; rfl)
    exact .inr ⟨g, cap, cur, e, hl, (hb.block g (by omega)).trans hg, rest⟩
theorem OwnC.drawn (h : OwnC w lo hi A n c cs) (hd : Drawn w w') : OwnC w' lo hi A n c cs := h.below (hd.below hi) (Nat.le_refl _)
theorem OwnC.within {lo' hi' : Nat} (h : OwnC w lo hi A n c cs) (hw : Within lo' hi' w w') (hd : hi ≤ lo' ∨ hi' ≤ lo) : OwnC w' lo hi A n c cs := by
  refine ⟨h.1, ⟨h.2.1.1, ?_⟩, h.2.2⟩
  rcases h.2.1.2 with hn | ⟨g, cap, cur, e, hl, hg, rest⟩
  · exact .inl hn
  · have hlt := h.2.2 g (by rw [e]; rfl)
    have hsz := (h.2.1.lt g (by rw [e]; rfl)).2
    exact .inr ⟨g, cap, cur, e, hl, (hw.2.2.2.2 g hsz (by omega)).trans hg, rest⟩
theorem OwnC.wide {lo' hi' : Nat} (h : OwnC w lo hi A n c cs) (h1 : lo' ≤ lo) (h2 : hi ≤ hi') : OwnC w lo' hi' A n c cs := by
  refine ⟨h.1, ⟨h.2.1.1, ?_⟩, fun k hk => Nat.lt_of_lt_of_le (h.2.2 k hk) h2⟩
  rcases h.2.1.2 with hn | ⟨g, cap, cur, e, hl, rest⟩
  · exact .inl hn
  · exact .inr ⟨g, cap, cur, e, Nat.le_trans h1 hl, rest⟩
theorem OwnC.set1 {g k : Nat} (h : OwnC w lo hi (some ⟨g, 0, none⟩) n c cs) (hk : k < n) (x : Int) :
    OwnC (w.setCell ⟨g, k * 2, none⟩ (.int .i64 x)) lo hi (some ⟨g, 0, none⟩) n c (cs.set k (x, (ce cs k).2)) ∧ w.grownBy (w.setCell ⟨g, k * 2, none⟩ (.int .i64 x)) (some g) := by
  obtain ⟨h1, h2⟩ := h.2.1.stored (k * 2) (.int .i64 x)
  refine ⟨⟨by simpa using h.1, ?_, h.2.2⟩, h2⟩
  rw [cells2_set0 _ hk] at h1
  refine rowc_eq h1 (cells2_congr fun j hj => ?_)
  unfold cv
  rw [ce_set (by rw [h.1]; exact hk)]
  by_cases e : j = k
  · subst e; simp
  · simp [e]
theorem OwnC.set2 {g k : Nat} (h : OwnC w lo hi (some ⟨g, 0, none⟩) n c cs) (hk : k < n) (x : Int) :
    OwnC (w.setCell ⟨g, k * 2 + 1, none⟩ (.int .i64 x)) lo hi (some ⟨g, 0, none⟩) n c (cs.set k ((ce cs k).1, x)) ∧ w.grownBy (w.setCell ⟨g, k * 2 + 1, none⟩ (.int .i64 x)) (some g) := by
  obtain ⟨h1, h2⟩ := h.2.1.stored (k * 2 + 1) (.int .i64 x)
  refine ⟨⟨by simpa using h.1, ?_, h.2.2⟩, h2⟩
  rw [cells2_set1 _ hk] at h1
  refine rowc_eq h1 (cells2_congr fun j hj => ?_)
  unfold cv
  rw [ce_set (by rw [h.1]; exact hk)]
  by_cases e : j = k
  · subst e; simp
  · simp [e]
theorem OwnC.cells {g k : Nat} (h : OwnC w lo hi (some ⟨g, 0, none⟩) n c cs) (hk : k < n) :
    w.cell? ⟨g, k * 2, none⟩ = some (.int .i64 (ce cs k).1) ∧ w.cell? ⟨g, k * 2 + 1, none⟩ = some (.int .i64 (ce cs k).2) ∧ ∀ j, w.frozen? ⟨g, j, none⟩ = false := by
  refine ⟨?_, ?_, fun j => h.2.1.frozenAt j⟩
  · rw [h.2.1.cellAt (k * 2) (by omega), cells2_get0 _ hk]; rfl
  · rw [h.2.1.cellAt (k * 2 + 1) (by omega), cells2_get1 _ hk]; rfl
end
theorem OwnC.empty (w : World) : OwnC (w.alloc (.cells #[] 69)) w.heap.size (w.heap.size + 1) (some ⟨w.heap.size, 0, none⟩) 0 0 [] :=
  ⟨rfl, World.ownsRow_lit w #[] 0 (Nat.le_refl _) (Nat.zero_le _) rfl, fun k hk => by simp [Value.ownBlock] at hk; omega⟩
/-- What a call that makes a slice of cells hands back. -/
def FreshC (w w' : World) (e : Ending) (cs : List Ce) : Prop :=
  ∃ A n c, e = .returned (.slice A n c) ∧ OwnC w' w.heap.size w'.heap.size A n c cs ∧ Below w.heap.size w w'
theorem FreshC.nil_ret {w w' : World} (h : Below w.heap.size w w') : FreshC w w' (.returned (.slice none 0 0)) [] := ⟨none, 0, 0, rfl, OwnC.nil _ _ _, h⟩

theorem Try.infoCellZ : (Try.prog.info? 69).map (fun i => (i.zero, i.size, i.bytes)) = some (some (.agg #[.int .i64 0, .int .i64 0]), 2, 16) := by kernel_rfl
theorem Try.infoCell : (Try.prog.info? 69).map (·.size) = some 2 := by kernel_rfl
/-- 'out = append(out, Cell{..})' on a slice of the call's own. -/
theorem wpList_appendC {ops : Array Oper} {rest : List Oper} {o : Oper} {a : Act} {w : World} {Q : Exit → Act → World → Prop} (hgd : o.guard = none) (s x : Operand)
    (ho : o.op = .call { callee := .builtin .append, args := #[s, x], argTypes := #[66, 66] })
    (lo : Nat) (A : Option Addr) (n c : Nat) (cs : List Ce) (p q : Int) (hs : a.eval s = .slice A n c) (hx : a.eval x = .slice (some ⟨w.heap.size, 0, none⟩) 1 1)
    (hown : OwnC w lo w.heap.size A n c cs) (hlo : lo ≤ w.heap.size) (hn : n ≤ 1099511627776)
    (hK : ∀ A' c' w', OwnC w' lo w'.heap.size A' (n + 1) c' (cs ++ [(p, q)]) → Below lo w w' → w.grownBy w' (Value.slice A n c).ownBlock → (∀ g, (Value.slice A' (n + 1) c').ownBlock = some g → (Value.slice A n c).ownBlock = some g ∨ w.heap.size ≤ g) → wpList Try.prog ops Q rest (a.put o.dst (.slice A' (n + 1) c')) w') :
    wpList Try.prog ops Q (o :: rest) a (w.alloc (.cells #[.int .i64 p, .int .i64 q] 69)) := by
  obtain ⟨i0, hi, hz0, hz1, hz2⟩ := info_parts Try.infoCellZ
  refine Go.wpList_append_own_at _ hgd s x 66 ho lo 69 i0 (.agg #[.int .i64 0, .int .i64 0]) 2 16 Try.underlying66 hi hz0 hz1 hz2 rfl (by decide) _ _ _ hs (hown.2.1.alloc _) ⟨w.heap.size, 0, none⟩ 1 1 [.int .i64 p, .int .i64 q] hx rfl ?_ ?_ (by unfold maxLen; omega) (by omega) (by simp; omega) ?_
  · intro j u hj
    rw [add_pt, Nat.zero_add, (Blk.new w 69 #[.int .i64 p, .int .i64 q]).cell j]
    simpa using hj
  · intro u hu
    simp at hu
    rcases hu with rfl | rfl <;> rfl
  · intro v' w1 ho1 hg1 _ hat
    rw [cells2_app] at ho1
    obtain ⟨g, cap, rfl, _, _⟩ := ho1.form (by omega)
    have hg2 : w.grownBy w1 (Value.slice A n c).ownBlock := (World.grownBy_alloc w _ _).trans hg1
    refine hK _ _ w1 ⟨by simp [hown.1], rowc_eq ho1 (cells2_congr fun j hj => ?_), fun k hk => (ho1.lt k hk).2⟩ (grow_below hg2 hlo (fun k hk => (hown.2.1.lt k hk).1)) hg2 (fun b hb => by
      rcases hat with h | h
      · exact .inl (h ▸ hb)
      · right; rw [h] at hb; injection hb with hb; rw [← hb]; simp)
    unfold cv
    by_cases e : j = n
    · subst e
      rw [if_pos rfl]
      have := @ce_app_at cs (p, q)
      rw [hown.1] at this
      rw [this]
    · rw [if_neg e, ce_app_lt (by rw [hown.1]; omega)]

/-- Equality of two lists of cells as a Bool. -/
def eqCs (ts us : List Ce) : Bool := decide (ts = us)
theorem eqCs_self (ts : List Ce) : eqCs ts ts = true := by simp [eqCs]
theorem eqCs_len {ts us : List Ce} (h : ts.length ≠ us.length) : eqCs ts us = false := by
  simp only [eqCs, decide_eq_false_iff_not]; intro e; exact h (by rw [e])
theorem eqCs_all {ts us : List Ce} (hl : ts.length = us.length) (h : ∀ j, j < ts.length → ce ts j = ce us j) : eqCs ts us = true := by
  simp only [eqCs, decide_eq_true_eq]
  exact ce_ext hl h
theorem eqCs_ne {ts us : List Ce} {k : Nat} (h : ce ts k ≠ ce us k) : eqCs ts us = false := by
  simp only [eqCs, decide_eq_false_iff_not]; intro e; exact h (by rw [e])

/-- What marking has written after k cells. -/
def mixC (cs : List Ce) (q : Int) (k : Nat) : List Ce := (List.range cs.length).map fun j => if j < k then (q + 2 * (j : Int), q + 2 * (j : Int) + 1) else ce cs j
theorem mixC_len (cs : List Ce) (q : Int) (k : Nat) : (mixC cs q k).length = cs.length := by simp [mixC]
theorem mixC_ce {cs : List Ce} {q : Int} {k j : Nat} (h : j < cs.length) : ce (mixC cs q k) j = if j < k then (q + 2 * (j : Int), q + 2 * (j : Int) + 1) else ce cs j := by
  rw [ce_get (by rw [mixC_len]; exact h)]; simp [mixC]
theorem mixC_zero (cs : List Ce) (q : Int) : mixC cs q 0 = cs := ce_ext (mixC_len _ _ _) fun j hj => by rw [mixC_ce (by rwa [mixC_len] at hj), if_neg (by omega)]
theorem mixC_succ {cs : List Ce} {q : Int} {k : Nat} (h : k < cs.length) : (mixC cs q k).set k (q + 2 * (k : Int), q + 2 * (k : Int) + 1) = mixC cs q (k + 1) := by
  refine ce_ext (by simp [mixC_len]) fun j hj => ?_
  simp [mixC_len] at hj
  rw [ce_set (by rw [mixC_len]; exact h), mixC_ce hj, mixC_ce hj]
  by_cases e : j = k
  · subst e; rw [if_pos rfl, if_pos (by omega)]
  · rw [if_neg e]
    by_cases h1 : j < k
    · rw [if_pos h1, if_pos (by omega)]
    · rw [if_neg h1, if_neg (by omega)]

end Go.Proofs.Ytbkhibojbakckaa

/-
  Diagrams: the specification's side. Conditions: lengths below 2^40.
-/


namespace Go.Proofs.Ytbkhibojbakckaa
open Go.RowKit

/-- The cells of row i in the first m columns. -/
def dRow (bk : List Int) (i : Nat) : Nat → List Ce
  | 0 => []
  | m + 1 => if (i : Int) < nth bk m then dRow bk i m ++ [((i : Int), (m : Int))] else dRow bk i m
theorem dRow_len (bk : List Int) (i : Nat) : ∀ m, (dRow bk i m).length ≤ m
  | 0 => by simp [dRow]
  | m + 1 => by
    have := dRow_len bk i m
    unfold dRow
    split <;> simp <;> omega
theorem dRow_hit {bk : List Int} {i m : Nat} (h : (i : Int) < nth bk m) : dRow bk i (m + 1) = dRow bk i m ++ [((i : Int), (m : Int))] := by
  show (if _ then _ else _) = _; rw [if_pos h]
theorem dRow_miss {bk : List Int} {i m : Nat} (h : ¬ (i : Int) < nth bk m) : dRow bk i (m + 1) = dRow bk i m := by
  show (if _ then _ else _) = _; rw [if_neg h]
theorem dRow_congr {bk bk' : List Int} {i : Nat} : ∀ m, (∀ j, j < m → nth bk j = nth bk' j) → dRow bk i m = dRow bk' i m
  | 0, _ => rfl
  | m + 1, h => by
    have e := dRow_congr (i := i) m (fun j hj => h j (by omega))
    have e2 := h m (by omega)
    show (if _ then _ else _) = (if _ then _ else _)
    rw [e, e2]
/-- The cells of the first k rows. -/
def dAll (xs bk : List Int) : Nat → List Ce
  | 0 => []
  | i + 1 => dAll xs bk i ++ dRow bk i (nth xs i).toNat
theorem dAll_len {xs bk : List Int} (h : ∀ i, i < xs.length → nth xs i < 7) : ∀ k, k ≤ xs.length → (dAll xs bk k).length ≤ 7 * k
  | 0, _ => by simp [dAll]
  | k + 1, hk => by
    have h1 := dAll_len (bk := bk) h k (by omega)
    have h2 := dRow_len bk k (nth xs k).toNat
    have h3 := h k (by omega)
    have e : dAll xs bk (k + 1) = dAll xs bk k ++ dRow bk k (nth xs k).toNat := rfl
    rw [e, List.length_append]
    omega
def diaPerm (xs : List Int) : List Ce := if isPermB xs = true then dAll xs (invM xs xs.length xs.length) xs.length else []
theorem diaPerm_no {xs : List Int} (h : isPermB xs = false) : diaPerm xs = [] := by unfold diaPerm; rw [if_neg (by rw [h]; decide)]
theorem diaPerm_yes {xs : List Int} (h : isPermB xs = true) : diaPerm xs = dAll xs (invM xs xs.length xs.length) xs.length := by unfold diaPerm; rw [if_pos h]
theorem diaPerm_small (xs : List Int) : (diaPerm xs).length ≤ 49 := by
  cases h : isPermB xs with
  | false => rw [diaPerm_no h]; simp
  | true =>
    rw [diaPerm_yes h]
    have hp := isPermB_P h
    have h7 := hp.2.1
    have := dAll_len (xs := xs) (bk := invM xs xs.length xs.length) (fun i hi => by have := (hp.range i hi).2; omega) xs.length (Nat.le_refl _)
    omega

set_option maxRecDepth 100000 in
set_option maxHeartbeats 1600000 in
theorem specDiagram_any (A : Option Addr) (n c : Nat) (xs : List Int) (w : World) (hs : SI w A n xs) (hnc : n ≤ c) (hn : n ≤ 1099511627776) :
    Calls Try.prog 137 #[.slice A n c] w fun e w' => FreshC w w' e (diaPerm xs) := by
  have hl := hs.1
  cases hu : isPermB xs with
  | false =>
    have HE := Lib.hid (diaPerm_no hu)
    have HU := Lib.hid hu
    clear hu
    go_enter Try.func137, Try.ntmps137
    go_wp2_with (go_at_call 104; refine (specIsPerm_is c HU.out hs hnc hn).mono ?_; rintro e w1 ⟨rfl, hd1⟩)
    go_ret
    rw [HE.out]
    exact FreshC.nil_ret (hd1.below _)
  | true =>
    have hp := isPermB_P hu
    have HP := Lib.hid hp
    have HE := Lib.hid (diaPerm_yes hu)
    have HU := Lib.hid hu
    have HL := Lib.hid hl
    have h7 : n ≤ 7 := by have := hp.2.1; omega
    have h1 : 1 ≤ n := by have := hp.1; omega
    have hrng : ∀ k, k < n → 0 ≤ nth xs k ∧ nth xs k < (n : Int) := fun k hk => by have := hp.range k (by rw [hl]; exact hk); rw [hl] at this; exact this
    have HR := Lib.hid hrng
    have HSI := Lib.hid hs
    clear hu hp hl hrng
    go_enter Try.func137, Try.ntmps137
    go_wp2_with (go_at_call 104; refine (specIsPerm_is c HU.out hs hnc hn).mono ?_; rintro e w1 ⟨rfl, hd1⟩; have HD1 := Lib.hid hd1; clear hd1)
    have hz : w1.heap.size = w.heap.size := by rw [HD1.out.heap]
    have hC0 := (OwnC.empty w1)
    have hb1 : Below w.heap.size w (w1.alloc (.cells #[] 69)) := (HD1.out.below _).alloc (by rw [hz]; exact Nat.le_refl _) _
    have hs1 := HSI.out.below hb1 (Nat.le_refl _)
    have hsz : (w1.alloc (.cells #[] 69)).heap.size = w1.heap.size + 1 := by simp
    generalize (w1.alloc (.cells #[] 69)) = w2 at *
    have HC0 := Lib.hid hC0
    have HB1 := Lib.hid hb1
    have HSZ := Lib.hid (And.intro hsz hz)
    have hI := l1Inverse_any A n c xs w2 hs1 hn HR.out
    have HI := Lib.hid hI
    clear hC0 hb1 hs1 hsz hI hs hz
    refine HI.out.mono ?_
    rintro e w3 ⟨Ab, nb, cb, rfl, hob, hbb⟩
    have enb : nb = n := by have := hob.len; rw [invM_len] at this; exact this.symm
    subst enb
    obtain ⟨gb, rfl, hgb1, hgb2⟩ := hob.place (by omega)
    have HOB := Lib.hid hob
    have HC3 : Hid (OwnC w3 w.heap.size w3.heap.size (some ⟨w1.heap.size, 0, none⟩) 0 0 []) := Lib.hid ((HC0.out.below hbb (by rw [HSZ.out.1]; exact Nat.le_refl _)).wide (by rw [HSZ.out.2]; exact Nat.le_refl _) (by have := hbb.size; have := HSZ.out.1; omega))
    have HB3 := Lib.hid (HB1.out.trans (hbb.mono HB1.out.size))
    have HGB : Hid (w1.heap.size < gb ∧ gb < w3.heap.size) := Lib.hid ⟨by have := HSZ.out.1; omega, hgb2⟩
    have HOS : Hid (Own w3 w2.heap.size w3.heap.size (some ⟨gb, 0, none⟩) nb cb (invM xs nb nb)) := HOB
    clear hob hbb hgb1 hgb2 HC0 HI
    obtain ⟨bk, hbk⟩ : ∃ bk, bk = invM xs nb nb := ⟨_, rfl⟩
    rw [← hbk] at HOS HOB
    have HBK := Lib.hid hbk
    clear hbk
    go_wp2
    go_loopw [3, 5] (fun v i wr => ∃ (k m : Nat) (A' : Option Addr) (c' : Nat), k ≤ nb ∧ i = .int .i64 k ∧ v = .slice A' m c' ∧ OwnC wr w.heap.size wr.heap.size A' m c' (dAll xs bk k) ∧ (∀ g, (Value.slice A' m c').ownBlock = some g → g ≠ gb) ∧ SI wr (some ⟨gb, 0, none⟩) nb bk ∧ gb < wr.heap.size ∧ Below w.heap.size w wr)
      (fun _ i _ => nb - (intOf i).toNat)
    case atStart => exact ⟨0, 0, _, _, Nat.zero_le _, rfl, rfl, HC3.out, (fun g hg => by have := HGB.out.1; simp [Value.ownBlock] at hg; omega), HOS.out.si, HGB.out.2, HB3.out⟩
    case round =>
      obtain ⟨k, m, A', c', hk, rfl, rfl, hoc, hne, hsb, hgw, hbel⟩ := hrel
      have HOC := Lib.hid hoc
      have HNE := Lib.hid hne
      have HSB := Lib.hid hsb
      have HGW := Lib.hid hgw
      have HB := Lib.hid hbel
      clear hoc hne hsb hgw hbel HC3 HOS HB3 HGB
      by_cases hlt : k < nb
      · have hlI : (k : Int) < (nb : Int) := by omega
        obtain ⟨hx0, hx1⟩ := HR.out k hlt
        obtain ⟨q, hq⟩ : ∃ q : Nat, nth xs k = (q : Int) := ⟨(nth xs k).toNat, by omega⟩
        have hqn : q < nb := by omega
        have HQ := Lib.hid hq
        have hda : dAll xs bk (k + 1) = dAll xs bk k ++ dRow bk k q := by show _ ++ dRow bk k (nth xs k).toNat = _; rw [hq, Int.toNat_natCast]
        have HDA := Lib.hid hda
        clear hq hda hx0 hx1
        go_wp2
        go_loopw [3, 6] (fun v i w5 => ∃ (j m : Nat) (A' : Option Addr) (c' : Nat), j ≤ q ∧ i = .int .i64 j ∧ v = .slice A' m c' ∧ OwnC w5 w.heap.size w5.heap.size A' m c' (dAll xs bk k ++ dRow bk k j) ∧ (∀ g, (Value.slice A' m c').ownBlock = some g → g ≠ gb) ∧ SI w5 (some ⟨gb, 0, none⟩) nb bk ∧ gb < w5.heap.size ∧ Below w.heap.size w w5)
          (fun _ i _ => q - (intOf i).toNat)
        case atStart => exact ⟨0, m, A', c', Nat.zero_le _, rfl, rfl, by simpa [dRow] using HOC.out, HNE.out, HSB.out, HGW.out, HB.out⟩
        case round =>
          clear HOC HNE HSB HGW HB
          obtain ⟨j, m, A', c', hj, rfl, rfl, hoc, hne, hsb, hgw, hbel⟩ := hrel
          have HOC := Lib.hid hoc
          have HNE := Lib.hid hne
          have HSB := Lib.hid hsb
          have HGW := Lib.hid hgw
          have HB := Lib.hid hbel
          have hsx := HSI.out.below hbel (Nat.le_refl _)
          obtain ⟨bx, ox, eA, hbx, hcx⟩ := hsx.at_ (by omega)
          have hck := hcx k hlt
          rw [HQ.out] at hck
          subst eA
          by_cases hjq : j < q
          · have hjI : (j : Int) < (q : Int) := by omega
            obtain ⟨b2, o2, e2, hb2, hc2⟩ := hsb.at_ (by omega)
            injection e2 with e2
            injection e2 with e21 e22 e23
            subst e21; subst e22
            have hcb := hc2 j (by omega)
            rw [Nat.zero_add] at hcb
            obtain ⟨y, hy⟩ : ∃ y, y = nth bk j := ⟨_, rfl⟩
            rw [← hy] at hcb
            have HY := Lib.hid hy
            have hml : m ≤ 1099511627776 := by
              have h1 := hoc.len
              have h2 := dAll_len (xs := xs) (bk := bk) (fun i hi => by have := (HP.out.range i hi).2; rw [HL.out] at this; omega) k (by rw [HL.out]; omega)
              have h3 := dRow_len bk k j
              rw [List.length_append] at h1
              omega
            clear hoc hne hsb hgw hbel hsx hcx hc2 hy
            by_cases hky : (k : Int) < y
            · have hrh := dRow_hit (bk := bk) (i := k) (m := j) (by rw [← HY.out]; exact hky)
              have HRH := Lib.hid hrh
              clear hrh
              go_wp2_with (at_builtin; refine wpList_appendC rfl (.tmp 33) (.tmp 37) rfl w.heap.size A' m c' (dAll xs bk k ++ dRow bk k j) k j rfl rfl HOC.out HB.out.size hml ?_; intro A2 c2 w6 ho6 hb6 hg6 hn6)
              have hsb6 : SI w6 (some ⟨gb, 0, none⟩) nb bk := ⟨HSB.out.1, fun hn => by
                obtain ⟨b4, o4, e4, hb4, hc4⟩ := HSB.out.2 hn
                refine ⟨b4, o4, e4, Nat.lt_of_lt_of_le hb4 hg6.size, fun t ht => ?_⟩
                injection e4 with e4
                injection e4 with e41 e42 _
                subst e41; subst e42
                exact hg6.cell (hc4 t ht) (fun e => HNE.out gb e.symm rfl)⟩
              go_roundw
              case rel => exact ⟨j + 1, m + 1, A2, c2, by omega, by go_num, rfl, by rw [HRH.out, ← List.append_assoc]; exact ho6, (fun g hg => by
                rcases hn6 g hg with h | h
                · exact HNE.out g h
                · have := HGW.out; omega), hsb6, Nat.lt_of_lt_of_le HGW.out hg6.size, HB.out.trans (hb6.mono (Nat.le_refl _))⟩
              case measure => simp [intOf]; omega
            · have hrh := dRow_miss (bk := bk) (i := k) (m := j) (by rw [← HY.out]; exact hky)
              have HRH := Lib.hid hrh
              clear hrh
              go_wp2
              go_roundw
              case rel => exact ⟨j + 1, m, A', c', by omega, by go_num, rfl, by rw [HRH.out]; exact HOC.out, HNE.out, HSB.out, HGW.out, HB.out⟩
              case measure => simp [intOf]; omega
          · have hjn : j = q := by omega
            subst hjn
            clear hoc hne hsb hgw hbel hsx hcx
            go_wp2
            go_roundw
            case rel => exact ⟨k + 1, m, A', c', by omega, by go_num, rfl, by rw [HDA.out]; exact HOC.out, HNE.out, HSB.out, HGW.out, HB.out⟩
            case measure => simp [intOf]; omega
      · have hkn : k = nb := by omega
        subst hkn
        go_wp2
        go_ret
        refine ⟨A', m, c', rfl, ?_, HB.out⟩
        rw [HE.out, HL.out, ← HBK.out]
        exact HOC.out
end Go.Proofs.Ytbkhibojbakckaa

/-
  Diagrams: the program's side. Conditions: lengths below 2^40.
-/


namespace Go.Proofs.Ytbkhibojbakckaa
open Go.RowKit

set_option maxRecDepth 100000 in
set_option maxHeartbeats 1600000 in
theorem implDiagram_any (A : Option Addr) (n c : Nat) (xs : List Int) (w : World) (hs : SI w A n xs) (hn : n ≤ 1099511627776) :
    Calls Try.prog 140 #[.slice A n c] w fun e w' => FreshC w w' e (diaPerm xs) := by
  have hl := hs.1
  cases hu : isPermB xs with
  | false =>
    have HE := Lib.hid (diaPerm_no hu)
    have HU := Lib.hid hu
    clear hu
    go_enter Try.func140, Try.ntmps140
    go_wp2_with fail
    refine (arrayOf_x c HU.out hs hn).mono ?_
    rintro e w1 ⟨l, rfl, -, hb1⟩
    go_wp2
    go_ret
    rw [HE.out]
    exact FreshC.nil_ret (hb1.alloc hb1.size _)
  | true =>
    have hp := isPermB_P hu
    have HP := Lib.hid hp
    have HE := Lib.hid (diaPerm_yes hu)
    have HU := Lib.hid hu
    have HL := Lib.hid hl
    have h7 : n ≤ 7 := by have := hp.2.1; omega
    have hrng : ∀ k, k < n → 0 ≤ nth xs k ∧ nth xs k < (n : Int) := fun k hk => by have := hp.range k (by rw [hl]; exact hk); rw [hl] at this; exact this
    have HR := Lib.hid hrng
    clear hu hp hrng
    go_enter Try.func140, Try.ntmps140
    go_wp2_with fail
    refine (arrayOf_x c HU.out hs hn).mono ?_
    rintro e w1 ⟨l, rfl, hlf, hb1⟩
    have HF := Lib.hid (hlf rfl)
    clear hlf hl hs
    have hK := Blk.new w1 104 (arrC l)
    go_wp2_with (refine wpList_load_blk rfl 104 (.tmp 3) rfl w1.heap.size rfl 104 (arrC l) 7 3 hK Try.undArr Try.infoArr ?_)
    have hb2 : Below w.heap.size w (w1.alloc (.cells (arrC l) 104)) := hb1.alloc hb1.size _
    obtain ⟨g1, hg1⟩ : ∃ g1, g1 = w1.heap.size := ⟨_, rfl⟩
    rw [← hg1] at hK ⊢
    have hg1w : w.heap.size ≤ g1 := by rw [hg1]; exact hb1.size
    clear hg1
    generalize w1.alloc (.cells (arrC l) 104) = w2 at *
    refine (inverse_any l w2 ?_).mono ?_
    · have e := HF.out
      subst e
      rw [← HL.out]
      exact fun k hk => fillA_range HP.out k hk
    · rintro e w3 ⟨rfl, hb3⟩
      have hK3 := (hK.below hb3 hK.lt).alloc (.cells (arrC (invM l 7 7)) 104)
      have hK3' := Blk.new w3 104 (arrC (invM l 7 7))
      have hb4 : Below w.heap.size w (w3.alloc (.cells (arrC (invM l 7 7)) 104)) := (hb2.trans (hb3.mono hb2.size)).alloc ((hb2.trans (hb3.mono hb2.size)).size) _
      have e1 : ∀ j, j < n → nth l j = nth xs j := fun j hj => by rw [HF.out]; exact fillA_lt (by omega) (by omega)
      have e2 : ∀ j, j < n → nth (invM l 7 7) j = nth (invM xs n n) j := fun j hj => by
        have := invM_take HP.out
        rw [HL.out] at this
        rw [HF.out, ← nth_take (k := n) hj, this]
      have E1 := Lib.hid e1
      have E2 := Lib.hid e2
      have hl7 : l.length = 7 := by rw [HF.out, fillA_len]
      have HL7 := Lib.hid hl7
      clear e1 e2 hl7 hK hb3 hb2 hb1
      go_wp2
      obtain ⟨g2, hg2⟩ : ∃ g2, g2 = w3.heap.size := ⟨_, rfl⟩
      rw [← hg2] at hK3' ⊢
      clear hg2
      generalize w3.alloc (.cells (arrC (invM l 7 7)) 104) = w4 at *
      have HB4 := Lib.hid hb4
      have HK1 := Lib.hid hK3
      have HK2 := Lib.hid hK3'
      obtain ⟨bk, hbk⟩ : ∃ bk, bk = invM xs n n := ⟨_, rfl⟩
      rw [← hbk] at E2
      have HBK := Lib.hid hbk
      clear hb4 hK3 hK3' hbk
      go_loopw [6, 20] (fun v i wr => ∃ (k m : Nat) (A' : Option Addr) (c' : Nat), k ≤ n ∧ i = .int .i64 k ∧ v = .slice A' m c' ∧ OwnC wr w4.heap.size wr.heap.size A' m c' (dAll xs bk k) ∧ Below w4.heap.size w4 wr)
        (fun _ i _ => n - (intOf i).toNat)
      case atStart => exact ⟨0, 0, _, _, Nat.zero_le _, rfl, rfl, OwnC.nil _ _ _, Below.refl _ _⟩
      case round =>
        obtain ⟨k, m, A', c', hk, rfl, rfl, hoc, hbel⟩ := hrel
        have HOC := Lib.hid hoc
        have HB := Lib.hid hbel
        have K1 := HK1.out.below hbel HK1.out.lt
        clear hoc hbel
        by_cases hlt : k < n
        · have hlI : (k : Int) < (n : Int) := by omega
          obtain ⟨hx0, hx1⟩ := HR.out k hlt
          obtain ⟨q, hq⟩ : ∃ q : Nat, nth xs k = (q : Int) := ⟨(nth xs k).toNat, by omega⟩
          have hqn : q < n := by omega
          have HQ := Lib.hid hq
          have hda : dAll xs bk (k + 1) = dAll xs bk k ++ dRow bk k q := by show _ ++ dRow bk k (nth xs k).toNat = _; rw [hq, Int.toNat_natCast]
          have HDA := Lib.hid hda
          have hck : wr.cell? ⟨g1, k, none⟩ = some (.int .i64 (q : Int)) := by rw [K1.cell, arrC_get l k (by omega), E1.out k hlt, hq]
          clear hq hda hx0 hx1 K1
          go_wp2
          go_loopw [6, 26] (fun v i w5 => ∃ (j m : Nat) (A' : Option Addr) (c' : Nat), j ≤ q ∧ i = .int .i64 j ∧ v = .slice A' m c' ∧ OwnC w5 w4.heap.size w5.heap.size A' m c' (dAll xs bk k ++ dRow bk k j) ∧ Below w4.heap.size w4 w5)
            (fun _ i _ => q - (intOf i).toNat)
          case atStart => exact ⟨0, m, A', c', Nat.zero_le _, rfl, rfl, by simpa [dRow] using HOC.out, HB.out⟩
          case round =>
            clear HOC HB
            obtain ⟨j, m, A', c', hj, rfl, rfl, hoc, hbel⟩ := hrel
            have HOC := Lib.hid hoc
            have HB := Lib.hid hbel
            by_cases hjq : j < q
            · have hjI : (j : Int) < (q : Int) := by omega
              have K2 := HK2.out.below hbel HK2.out.lt
              have hcb : wr.cell? ⟨g2, j, none⟩ = some (.int .i64 (nth bk j)) := by rw [K2.cell, arrC_get (invM l 7 7) j (by omega), E2.out j (by omega)]
              obtain ⟨y, hy⟩ : ∃ y, y = nth bk j := ⟨_, rfl⟩
              rw [← hy] at hcb
              have HY := Lib.hid hy
              have hml : m ≤ 1099511627776 := by
                have h1 := hoc.len
                have h2 := dAll_len (xs := xs) (bk := bk) (fun i hi => by have := (HP.out.range i hi).2; rw [HL.out] at this; omega) k (by rw [HL.out]; omega)
                have h3 := dRow_len bk k j
                rw [List.length_append] at h1
                omega
              clear hoc hbel K2 hy
              by_cases hky : (k : Int) < y
              · have hrh := dRow_hit (bk := bk) (i := k) (m := j) (by rw [← HY.out]; exact hky)
                have HRH := Lib.hid hrh
                clear hrh
                go_wp2_with (at_builtin; refine wpList_appendC rfl (.tmp 34) (.tmp 38) rfl w4.heap.size A' m c' (dAll xs bk k ++ dRow bk k j) k j rfl rfl HOC.out HB.out.size hml ?_; intro A2 c2 w6 ho6 hb6 hg6 hn6)
                go_roundw
                case rel => exact ⟨j + 1, m + 1, A2, c2, by omega, by go_num, rfl, by rw [HRH.out, ← List.append_assoc]; exact ho6, HB.out.trans (hb6.mono (Nat.le_refl _))⟩
                case measure => simp [intOf]; omega
              · have hrh := dRow_miss (bk := bk) (i := k) (m := j) (by rw [← HY.out]; exact hky)
                have HRH := Lib.hid hrh
                clear hrh
                go_wp2
                go_roundw
                case rel => exact ⟨j + 1, m, A', c', by omega, by go_num, rfl, by rw [HRH.out]; exact HOC.out, HB.out⟩
                case measure => simp [intOf]; omega
            · have hjn : j = q := by omega
              subst hjn
              clear hoc hbel
              go_wp2
              go_roundw
              case rel => exact ⟨k + 1, m, A', c', by omega, by go_num, rfl, by rw [HDA.out]; exact HOC.out, HB.out⟩
              case measure => simp [intOf]; omega
        · have hkn : k = n := by omega
          subst hkn
          go_wp2
          go_ret
          refine ⟨A', m, c', rfl, ?_, HB4.out.trans (HB.out.mono HB4.out.size)⟩
          rw [HE.out, HL.out, ← HBK.out]
          exact HOC.out.wide HB4.out.size (Nat.le_refl _)
end Go.Proofs.Ytbkhibojbakckaa

/-
  Essential cells, on both sides. Conditions: lengths below 2^40.
-/

namespace Go.Proofs.Ytbkhibojbakckaa
open Go.RowKit

theorem dRow_mem {bk : List Int} {i : Nat} {x : Ce} : ∀ {m : Nat}, x ∈ dRow bk i m → x.1 = (i : Int) ∧ 0 ≤ x.2 ∧ x.2 < (m : Int)
  | 0, h => by simp [dRow] at h
  | m + 1, h => by
    by_cases hk : (i : Int) < nth bk m
    · rw [dRow_hit hk, List.mem_append] at h
      rcases h with h | h
      · have := dRow_mem h; omega
      · simp at h; subst h; simp; omega
    · rw [dRow_miss hk] at h
      have := dRow_mem h; omega
theorem dAll_mem {xs bk : List Int} (h7 : ∀ i, i < xs.length → nth xs i < 7) {x : Ce} : ∀ {k : Nat}, k ≤ xs.length → x ∈ dAll xs bk k → 0 ≤ x.1 ∧ x.1 < (k : Int) ∧ 0 ≤ x.2 ∧ x.2 < 7
  | 0, _, h => by simp [dAll] at h
  | k + 1, hk, h => by
    have e : dAll xs bk (k + 1) = dAll xs bk k ++ dRow bk k (nth xs k).toNat := rfl
    rw [e, List.mem_append] at h
    rcases h with h | h
    · have := dAll_mem h7 (by omega) h; omega
    · have := dRow_mem h
      have := h7 k (by omega)
      omega
theorem diaPerm_mem {xs : List Int} {x : Ce} (h : x ∈ diaPerm xs) : 0 ≤ x.1 ∧ x.1 < 7 ∧ 0 ≤ x.2 ∧ x.2 < 7 := by
  cases hu : isPermB xs with
  | false => rw [diaPerm_no hu] at h; simp at h
  | true =>
    rw [diaPerm_yes hu] at h
    have hp := isPermB_P hu
    have h7 := hp.2.1
    have := dAll_mem (fun i hi => by have := (hp.range i hi).2; omega) (Nat.le_refl _) h
    omega
theorem ce_mem {cs : List Ce} {k : Nat} (h : k < cs.length) : ce cs k ∈ cs := by rw [ce_get h]; exact List.getElem_mem h
/-- Is the cell among them (not unfolded by the walk). -/
def hasC (cs : List Ce) (x : Ce) : Bool := decide (x ∈ cs)
theorem hasC_hit {cs : List Ce} {k : Nat} {x : Ce} (h : k < cs.length) (e : ce cs k = x) : hasC cs x = true := by
  unfold hasC; rw [← e]; exact decide_eq_true (ce_mem h)
theorem hasC_all {cs : List Ce} {x : Ce} (h : ∀ j, j < cs.length → ce cs j ≠ x) : hasC cs x = false := by
  unfold hasC
  apply decide_eq_false
  intro hm
  obtain ⟨j, hj, e⟩ := List.getElem_of_mem hm
  exact h j hj (by rw [ce_get hj]; exact e)

set_option maxHeartbeats 800000 in
theorem l1HasCell_any (A : Option Addr) (n c : Nat) (cs : List Ce) (x y : Int) (w : World) (hs : CS w A n cs) (hn : n ≤ 1099511627776) :
    Calls Try.prog 138 #[.slice A n c, .agg #[.int .i64 x, .int .i64 y]] w fun e w' => e = .returned (.bool (hasC cs (x, y))) ∧ Below w.heap.size w w' := by
  have HL := Lib.hid hs.1
  have hb0 : Below w.heap.size w (w.alloc (.cells #[.int .i64 x, .int .i64 y] 69)) := by go_grown
  have hK0 := Blk.new w 69 #[.int .i64 x, .int .i64 y]
  have hs0 := hs.below hb0 (Nat.le_refl _)
  have HB := Lib.hid hb0
  have HK := Lib.hid hK0
  clear hb0 hs hK0
  go_enter Try.func138, Try.ntmps138
  go_wp2
  obtain ⟨g, hg⟩ : ∃ g, g = w.heap.size := ⟨_, rfl⟩
  rw [← hg] at HK ⊢
  clear hg
  generalize (w.alloc (.cells #[.int .i64 x, .int .i64 y] 69)) = w0 at *
  go_loopw [5] (fun i wr => ∃ k : Nat, k ≤ n ∧ i = .int .i64 k ∧ (∀ j, j < k → ce cs j ≠ (x, y)) ∧ Drawn w0 wr)
    (fun i _ => n - (intOf i).toNat)
  case atStart => exact ⟨0, Nat.zero_le _, rfl, fun j hj => absurd hj (by omega), Drawn.refl _⟩
  case round =>
    obtain ⟨k, hk, rfl, hall, hD⟩ := hrel
    have HA := Lib.hid hall
    have HD := Lib.hid hD
    have hcs := hs0.drawn hD
    have K := HK.out.drawn hD
    have hd0 : wr.cell? ⟨g, 0, none⟩ = some (.int .i64 x) := K.cell 0
    have hd1 : wr.cell? ⟨g, 1, none⟩ = some (.int .i64 y) := K.cell 1
    clear hall hD hs0 K
    by_cases hlt : k < n
    · have hlI : (k : Int) < (n : Int) := by omega
      obtain ⟨b, o, rfl, hb, hc0, hc1⟩ := hcs.at_ hlt
      obtain ⟨p, hp⟩ : ∃ p, p = (ce cs k).1 := ⟨_, rfl⟩
      obtain ⟨q, hq⟩ : ∃ q, q = (ce cs k).2 := ⟨_, rfl⟩
      have hpq : ce cs k = (p, q) := by rw [hp, hq]
      rw [← hp] at hc0
      rw [← hq] at hc1
      have HPQ := Lib.hid hpq
      clear hcs hp hq hpq
      by_cases h1 : p = x
      · subst h1
        by_cases h2 : q = y
        · subst h2
          go_wp2_with fail
          go_quiet (fail)
          go_wp2
          go_ret
          exact ⟨ret_bool (hasC_hit (by rw [HL.out]; exact hlt) HPQ.out).symm, HB.out.trans ((HD.out.drewN _).below _)⟩
        · have hb2 : (q == y) = false := by simpa using h2
          have H2 := Lib.hid h2
          clear h2
          go_wp2_with fail
          go_quiet (fail)
          go_wp2
          go_roundw
          case rel => exact ⟨k + 1, by omega, by go_num, fun j hj => by
            rcases Nat.lt_or_ge j k with h | h
            · exact HA.out j h
            · obtain rfl : j = k := by omega
              rw [HPQ.out]; intro e; injection e with _ e; exact H2.out e, HD.out.drewN _⟩
          case measure => simp [intOf]; omega
      · have hb1 : (p == x) = false := by simpa using h1
        have H1 := Lib.hid h1
        clear h1
        go_wp2_with fail
        go_quiet (fail)
        go_wp2
        go_roundw
        case rel => exact ⟨k + 1, by omega, by go_num, fun j hj => by
          rcases Nat.lt_or_ge j k with h | h
          · exact HA.out j h
          · obtain rfl : j = k := by omega
            rw [HPQ.out]; intro e; injection e with e _; exact H1.out e, HD.out.drewN _⟩
        case measure => simp [intOf]; omega
    · have hkn : k = n := by omega
      subst hkn
      go_wp2
      go_ret
      exact ⟨ret_bool (hasC_all (by rw [HL.out]; exact HA.out)).symm, HB.out.trans (HD.out.below _)⟩
set_option maxHeartbeats 800000 in
theorem indexC_any (A : Option Addr) (n c : Nat) (cs : List Ce) (x y : Int) (w : World) (hs : CS w A n cs) (hn : n ≤ 1099511627776) :
    Calls Try.prog 183 #[.slice A n c, .agg #[.int .i64 x, .int .i64 y]] w fun e w' => (∃ r : Int, e = .returned (.int .i64 r) ∧ decide (0 ≤ r) = hasC cs (x, y)) ∧ Below w.heap.size w w' := by
  have HL := Lib.hid hs.1
  have hb0 : Below w.heap.size w (w.alloc (.cells #[.int .i64 x, .int .i64 y] 69)) := by go_grown
  have hK0 := Blk.new w 69 #[.int .i64 x, .int .i64 y]
  have hs0 := hs.below hb0 (Nat.le_refl _)
  have HB := Lib.hid hb0
  have HK := Lib.hid hK0
  clear hb0 hs hK0
  go_enter Try.func183, Try.ntmps183
  go_wp2
  obtain ⟨g, hg⟩ : ∃ g, g = w.heap.size := ⟨_, rfl⟩
  rw [← hg] at HK ⊢
  clear hg
  generalize (w.alloc (.cells #[.int .i64 x, .int .i64 y] 69)) = w0 at *
  go_loopw [8] (fun i wr => ∃ k : Nat, k ≤ n ∧ i = .int .i64 k ∧ (∀ j, j < k → ce cs j ≠ (x, y)) ∧ Drawn w0 wr)
    (fun i _ => n - (intOf i).toNat)
  case atStart => exact ⟨0, Nat.zero_le _, rfl, fun j hj => absurd hj (by omega), Drawn.refl _⟩
  case round =>
    obtain ⟨k, hk, rfl, hall, hD⟩ := hrel
    have HA := Lib.hid hall
    have HD := Lib.hid hD
    have hcs := hs0.drawn hD
    have K := HK.out.drawn hD
    have hd0 : wr.cell? ⟨g, 0, none⟩ = some (.int .i64 x) := K.cell 0
    have hd1 : wr.cell? ⟨g, 1, none⟩ = some (.int .i64 y) := K.cell 1
    clear hall hD hs0 K
    by_cases hlt : k < n
    · have hlI : (k : Int) < (n : Int) := by omega
      obtain ⟨b, o, rfl, hb, hc0, hc1⟩ := hcs.at_ hlt
      obtain ⟨p, hp⟩ : ∃ p, p = (ce cs k).1 := ⟨_, rfl⟩
      obtain ⟨q, hq⟩ : ∃ q, q = (ce cs k).2 := ⟨_, rfl⟩
      have hpq : ce cs k = (p, q) := by rw [hp, hq]
      rw [← hp] at hc0
      rw [← hq] at hc1
      have HPQ := Lib.hid hpq
      clear hcs hp hq hpq
      by_cases h1 : p = x
      · subst h1
        by_cases h2 : q = y
        · subst h2
          go_wp2_with fail
          go_quiet (fail)
          go_wp2
          go_ret
          exact ⟨⟨_, rfl, by rw [hasC_hit (by rw [HL.out]; exact hlt) HPQ.out]; simp⟩, HB.out.trans ((HD.out.drewN _).below _)⟩
        · have hb2 : (y == q) = false := by simpa using fun e => h2 e.symm
          have H2 := Lib.hid h2
          clear h2
          go_wp2_with fail
          go_quiet (fail)
          go_wp2
          go_roundw
          case rel => exact ⟨k + 1, by omega, by go_num, fun j hj => by
            rcases Nat.lt_or_ge j k with h | h
            · exact HA.out j h
            · obtain rfl : j = k := by omega
              rw [HPQ.out]; intro e; injection e with _ e; exact H2.out e, HD.out.drewN _⟩
          case measure => simp [intOf]; omega
      · have hb1 : (x == p) = false := by simpa using fun e => h1 e.symm
        have H1 := Lib.hid h1
        clear h1
        go_wp2_with fail
        go_quiet (fail)
        go_wp2
        go_roundw
        case rel => exact ⟨k + 1, by omega, by go_num, fun j hj => by
          rcases Nat.lt_or_ge j k with h | h
          · exact HA.out j h
          · obtain rfl : j = k := by omega
            rw [HPQ.out]; intro e; injection e with e _; exact H1.out e, HD.out.drewN _⟩
        case measure => simp [intOf]; omega
    · have hkn : k = n := by omega
      subst hkn
      go_wp2
      go_ret
      exact ⟨⟨_, rfl, by rw [hasC_all (by rw [HL.out]; exact HA.out)]; decide⟩, HB.out.trans (HD.out.below _)⟩

set_option maxHeartbeats 400000 in
theorem containsC_any (A : Option Addr) (n c : Nat) (cs : List Ce) (x y : Int) (w : World) (hs : CS w A n cs) (hn : n ≤ 1099511627776) :
    Calls Try.prog 141 #[.slice A n c, .agg #[.int .i64 x, .int .i64 y]] w fun e w' => e = .returned (.bool (hasC cs (x, y))) ∧ Below w.heap.size w w' := by
  have hb0 : Below w.heap.size w (w.alloc (.cells #[.int .i64 x, .int .i64 y] 69)) := by go_grown
  have hI := indexC_any A n c cs x y (w.alloc (.cells #[.int .i64 x, .int .i64 y] 69)) (hs.below hb0 (Nat.le_refl _)) hn
  have HI := Lib.hid hI
  have HB := Lib.hid hb0
  clear hI hb0 hs
  go_enter Try.func141, Try.ntmps141
  go_wp2_with fail
  refine HI.out.mono ?_
  rintro e w1 ⟨⟨r, rfl, hr⟩, hb⟩
  have HR := Lib.hid hr
  clear hr
  go_wp2
  go_ret
  exact ⟨ret_bool HR.out, HB.out.trans (hb.mono HB.out.size)⟩

/-- The essential ones among the first k cells. -/
def essL (cs : List Ce) : Nat → List Ce
  | 0 => []
  | k + 1 => if hasC cs ((ce cs k).1 + 1, (ce cs k).2) = false ∧ hasC cs ((ce cs k).1, (ce cs k).2 + 1) = false then essL cs k ++ [ce cs k] else essL cs k
theorem essL_len (cs : List Ce) : ∀ k, (essL cs k).length ≤ k
  | 0 => by simp [essL]
  | k + 1 => by
    have := essL_len cs k
    unfold essL
    split <;> simp <;> omega
theorem essL_hit {cs : List Ce} {k : Nat} (h1 : hasC cs ((ce cs k).1 + 1, (ce cs k).2) = false) (h2 : hasC cs ((ce cs k).1, (ce cs k).2 + 1) = false) : essL cs (k + 1) = essL cs k ++ [ce cs k] := by
  show (if _ then _ else _) = _; rw [if_pos ⟨h1, h2⟩]
theorem essL_miss {cs : List Ce} {k : Nat} (h : hasC cs ((ce cs k).1 + 1, (ce cs k).2) = true ∨ hasC cs ((ce cs k).1, (ce cs k).2 + 1) = true) : essL cs (k + 1) = essL cs k := by
  show (if _ then _ else _) = _
  rw [if_neg]
  rintro ⟨h1, h2⟩
  rcases h with h | h
  · rw [h1] at h; cases h
  · rw [h2] at h; cases h
def essPerm (xs : List Int) : List Ce := essL (diaPerm xs) (diaPerm xs).length
theorem essPerm_small (xs : List Int) : (essPerm xs).length ≤ 49 := Nat.le_trans (essL_len _ _) (diaPerm_small xs)

set_option maxRecDepth 100000 in
set_option maxHeartbeats 1600000 in
theorem specEssential_any (A : Option Addr) (n c : Nat) (xs : List Int) (w : World) (hs : SI w A n xs) (hnc : n ≤ c) (hn : n ≤ 1099511627776) :
    Calls Try.prog 63 #[.slice A n c] w fun e w' => FreshC w w' e (essPerm xs) := by
  have hD := specDiagram_any A n c xs w hs hnc hn
  have HD := Lib.hid hD
  have HM := Lib.hid (fun x (h : x ∈ diaPerm xs) => diaPerm_mem h)
  have HS := Lib.hid (diaPerm_small xs)
  have HE : Hid (essPerm xs = essL (diaPerm xs) (diaPerm xs).length) := Lib.hid rfl
  clear hD hs
  obtain ⟨cs, hcs⟩ : ∃ cs, cs = diaPerm xs := ⟨_, rfl⟩
  rw [← hcs] at HD HM HS HE
  clear hcs
  go_enter Try.func63, Try.ntmps63
  go_wp2_with fail
  refine HD.out.mono ?_
  rintro e w1 ⟨Al, nl, cl, rfl, hol, hbl⟩
  have HL := Lib.hid hol.len
  have hl49 : nl ≤ 49 := by have := HL.out; have := HS.out; omega
  have hC1 := OwnC.empty w1
  have hb1 : Below w1.heap.size w1 (w1.alloc (.cells #[] 69)) := (Below.refl _ _).alloc (Nat.le_refl _) _
  have hsz : (w1.alloc (.cells #[] 69)).heap.size = w1.heap.size + 1 := by simp
  have HSL := Lib.hid hol.si
  have HBL := Lib.hid hbl
  go_wp2
  clear hol hbl
  have HC2 : Hid (OwnC (w1.alloc (.cells #[] 69)) w1.heap.size (w1.alloc (.cells #[] 69)).heap.size (some ⟨w1.heap.size, 0, none⟩) 0 0 []) := Lib.hid (by rw [hsz]; exact hC1)
  generalize (w1.alloc (.cells #[] 69)) = w2 at *
  have HB2 := Lib.hid hb1
  clear hb1 hC1 hsz
  go_loopw [4, 5] (fun v i wr => ∃ (k m : Nat) (A' : Option Addr) (c' : Nat), k ≤ nl ∧ i = .int .i64 k ∧ v = .slice A' m c' ∧ OwnC wr w1.heap.size wr.heap.size A' m c' (essL cs k) ∧ Below w1.heap.size w1 wr)
    (fun _ i _ => nl - (intOf i).toNat)
  case atStart => exact ⟨0, 0, _, _, Nat.zero_le _, rfl, rfl, HC2.out, HB2.out⟩
  case round =>
    obtain ⟨k, m, A', c', hk, rfl, rfl, hoc, hbel⟩ := hrel
    have HOC := Lib.hid hoc
    have HB := Lib.hid hbel
    have hsl := HSL.out.below hbel (Nat.le_refl _)
    have hml : m ≤ 1099511627776 := by have h1 := hoc.len; have h2 := essL_len cs k; omega
    clear hoc hbel HC2 HB2
    by_cases hlt : k < nl
    · have hlI : (k : Int) < (nl : Int) := by omega
      obtain ⟨b, o, rfl, hb, hc0, hc1⟩ := hsl.at_ hlt
      obtain ⟨hp0, hp1, hq0, hq1⟩ := HM.out (ce cs k) (ce_mem (by rw [HL.out]; exact hlt))
      have hit := essL_hit (cs := cs) (k := k)
      have miss := essL_miss (cs := cs) (k := k)
      obtain ⟨p, hp⟩ : ∃ p, p = (ce cs k).1 := ⟨_, rfl⟩
      obtain ⟨q, hq⟩ : ∃ q, q = (ce cs k).2 := ⟨_, rfl⟩
      have hpq : ce cs k = (p, q) := by rw [hp, hq]
      rw [← hp] at hc0 hp0 hp1
      rw [← hq] at hc1 hq0 hq1
      rw [hpq] at hit miss
      have HIT := Lib.hid hit
      have MISS := Lib.hid miss
      obtain ⟨wa, hwa⟩ : ∃ wa, wa = wr.alloc (.cells #[.int .i64 p, .int .i64 q] 69) := ⟨_, rfl⟩
      have hba : Below wr.heap.size wr wa := by rw [hwa]; exact (Below.refl _ _).alloc (Nat.le_refl _) _
      have hka : Blk wa wr.heap.size 69 #[.int .i64 p, .int .i64 q] := by rw [hwa]; exact Blk.new _ _ _
      have C1 := l1HasCell_any (some ⟨b, o, none⟩) nl cl cs (p + 1) q wa (hsl.below hba (Nat.le_refl _)) (by omega)
      have hsa := hsl.below hba (Nat.le_refl _)
      have HSA := Lib.hid hsa
      have HBA := Lib.hid (And.intro hba hka)
      have HW := Lib.hid hwa
      rw [hwa] at C1
      have HC1 := Lib.hid C1
      clear hwa hba hka hsa C1 hsl hit miss hp hq hpq
      go_wp2_with fail
      refine HC1.out.mono ?_
      rw [← HW.out]
      rintro e w3 ⟨rfl, hb3⟩
      have hk3 := HBA.out.2.below hb3 HBA.out.2.lt
      have hd0 : w3.cell? ⟨wr.heap.size, 0, none⟩ = some (.int .i64 p) := hk3.cell 0
      have hd1 : w3.cell? ⟨wr.heap.size, 1, none⟩ = some (.int .i64 q) := hk3.cell 1
      have hbw : Below wr.heap.size wr w3 := HBA.out.1.trans (hb3.mono HBA.out.1.size)
      have HK3 := Lib.hid hk3
      have HBW := Lib.hid hbw
      have C2 := l1HasCell_any (some ⟨b, o, none⟩) nl cl cs p (q + 1) w3 (HSA.out.below hb3 (Nat.le_refl _)) (by omega)
      have HC2 := Lib.hid C2
      clear hk3 hbw C2 hb3 HC1 hc0 hc1
      cases h1 : hasC cs (p + 1, q) with
      | true =>
        have HX := Lib.hid (MISS.out (.inl h1))
        clear h1
        go_wp2
        go_roundw
        case rel => exact ⟨k + 1, m, A', c', by omega, by go_num, rfl, by rw [HX.out]; exact (HOC.out.below HBW.out (Nat.le_refl _)).wide (Nat.le_refl _) HBW.out.size, HB.out.trans (HBW.out.mono HB.out.size)⟩
        case measure => simp [intOf]; omega
      | false =>
        have H1 := Lib.hid h1
        clear h1
        go_wp2_with fail
        refine HC2.out.mono ?_
        rintro e w4 ⟨rfl, hb4⟩
        have hk4 := HK3.out.below hb4 HK3.out.lt
        have hd0 : w4.cell? ⟨wr.heap.size, 0, none⟩ = some (.int .i64 p) := hk4.cell 0
        have hd1 : w4.cell? ⟨wr.heap.size, 1, none⟩ = some (.int .i64 q) := hk4.cell 1
        have hbw : Below wr.heap.size wr w4 := HBW.out.trans (hb4.mono HBW.out.size)
        have HBX := Lib.hid hbw
        clear hk4 hbw hb4 HC2
        cases h2 : hasC cs (p, q + 1) with
        | true =>
          have HX := Lib.hid (MISS.out (.inr h2))
          clear h2
          go_wp2
          go_roundw
          case rel => exact ⟨k + 1, m, A', c', by omega, by go_num, rfl, by rw [HX.out]; exact (HOC.out.below HBX.out (Nat.le_refl _)).wide (Nat.le_refl _) HBX.out.size, HB.out.trans (HBX.out.mono HB.out.size)⟩
          case measure => simp [intOf]; omega
        | false =>
          have HX := Lib.hid (HIT.out H1.out h2)
          clear h2
          have HO4 := Lib.hid ((HOC.out.below HBX.out (Nat.le_refl _)).wide (Nat.le_refl _) HBX.out.size)
          go_wp2_with (at_builtin; refine wpList_appendC rfl (.tmp 40) (.tmp 42) rfl w1.heap.size A' m c' (essL cs k) p q rfl rfl HO4.out (Nat.le_trans HB.out.size HBX.out.size) hml ?_; intro A2 c2 w6 ho6 hb6 hg6 hn6)
          go_roundw
          case rel => exact ⟨k + 1, m + 1, A2, c2, by omega, by go_num, rfl, by rw [HX.out]; exact ho6, (HB.out.trans (HBX.out.mono HB.out.size)).trans hb6⟩
          case measure => simp [intOf]; omega
    · have hkn : k = nl := by omega
      subst hkn
      go_wp2
      go_ret
      refine ⟨A', m, c', rfl, ?_, HBL.out.trans (HB.out.mono HBL.out.size)⟩
      rw [HE.out, HL.out]
      exact HOC.out.wide HBL.out.size (Nat.le_refl _)
end Go.Proofs.Ytbkhibojbakckaa

/-
  Essential cells: the program's side. Conditions: lengths below 2^40.
-/

namespace Go.Proofs.Ytbkhibojbakckaa
open Go.RowKit

set_option maxRecDepth 100000 in
set_option maxHeartbeats 1600000 in
theorem implEssential_any (A : Option Addr) (n c : Nat) (xs : List Int) (w : World) (hs : SI w A n xs) (hn : n ≤ 1099511627776) :
    Calls Try.prog 67 #[.slice A n c] w fun e w' => FreshC w w' e (essPerm xs) := by
  have hD := implDiagram_any A n c xs w hs hn
  have HD := Lib.hid hD
  have HM := Lib.hid (fun x (h : x ∈ diaPerm xs) => diaPerm_mem h)
  have HS := Lib.hid (diaPerm_small xs)
  have HE : Hid (essPerm xs = essL (diaPerm xs) (diaPerm xs).length) := Lib.hid rfl
  clear hD hs
  obtain ⟨cs, hcs⟩ : ∃ cs, cs = diaPerm xs := ⟨_, rfl⟩
  rw [← hcs] at HD HM HS HE
  clear hcs
  go_enter Try.func67, Try.ntmps67
  go_wp2_with fail
  refine HD.out.mono ?_
  rintro e w1 ⟨Al, nl, cl, rfl, hol, hbl⟩
  have HL := Lib.hid hol.len
  have hl49 : nl ≤ 49 := by have := HL.out; have := HS.out; omega
  have HSL := Lib.hid hol.si
  have HBL := Lib.hid hbl
  clear hol hbl
  go_wp2
  go_loopw [4, 13] (fun v i wr => ∃ (k m : Nat) (A' : Option Addr) (c' : Nat), k ≤ nl ∧ i = .int .i64 k ∧ v = .slice A' m c' ∧ OwnC wr w1.heap.size wr.heap.size A' m c' (essL cs k) ∧ Below w1.heap.size w1 wr)
    (fun _ i _ => nl - (intOf i).toNat)
  case atStart => exact ⟨0, 0, _, _, Nat.zero_le _, rfl, rfl, OwnC.nil _ _ _, Below.refl _ _⟩
  case round =>
    obtain ⟨k, m, A', c', hk, rfl, rfl, hoc, hbel⟩ := hrel
    have HOC := Lib.hid hoc
    have HB := Lib.hid hbel
    have hsl := HSL.out.below hbel (Nat.le_refl _)
    have hml : m ≤ 1099511627776 := by have h1 := hoc.len; have h2 := essL_len cs k; omega
    clear hoc hbel
    by_cases hlt : k < nl
    · have hlI : (k : Int) < (nl : Int) := by omega
      obtain ⟨b, o, rfl, hb, hc0, hc1⟩ := hsl.at_ hlt
      obtain ⟨hp0, hp1, hq0, hq1⟩ := HM.out (ce cs k) (ce_mem (by rw [HL.out]; exact hlt))
      have hit := essL_hit (cs := cs) (k := k)
      have miss := essL_miss (cs := cs) (k := k)
      obtain ⟨p, hp⟩ : ∃ p, p = (ce cs k).1 := ⟨_, rfl⟩
      obtain ⟨q, hq⟩ : ∃ q, q = (ce cs k).2 := ⟨_, rfl⟩
      have hpq : ce cs k = (p, q) := by rw [hp, hq]
      rw [← hp] at hc0 hp0 hp1
      rw [← hq] at hc1 hq0 hq1
      rw [hpq] at hit miss
      have HIT := Lib.hid hit
      have MISS := Lib.hid miss
      obtain ⟨wa, hwa⟩ : ∃ wa, wa = ((wr.alloc (.cells #[.int .i64 p, .int .i64 q] 69)).alloc (.cells #[.int .i64 (p + 1), .int .i64 q] 69)).alloc (.cells #[.int .i64 p, .int .i64 (q + 1)] 69) := ⟨_, rfl⟩
      have hba : Below wr.heap.size wr wa := by rw [hwa]; go_grown
      have hk1 : Blk wa wr.heap.size 69 #[.int .i64 p, .int .i64 q] := by rw [hwa]; exact ((Blk.new wr _ _).alloc _).alloc _
      have hk2 : Blk wa (wr.heap.size + 1) 69 #[.int .i64 (p + 1), .int .i64 q] := by
        rw [hwa]
        have := (Blk.new (wr.alloc (.cells #[.int .i64 p, .int .i64 q] 69)) 69 #[.int .i64 (p + 1), .int .i64 q]).alloc (.cells #[.int .i64 p, .int .i64 (q + 1)] 69)
        simpa using this
      have hk3 : Blk wa (wr.heap.size + 1 + 1) 69 #[.int .i64 p, .int .i64 (q + 1)] := by
        rw [hwa]
        have := Blk.new ((wr.alloc (.cells #[.int .i64 p, .int .i64 q] 69)).alloc (.cells #[.int .i64 (p + 1), .int .i64 q] 69)) 69 #[.int .i64 p, .int .i64 (q + 1)]
        simpa using this
      have hsa := hsl.below hba (Nat.le_refl _)
      have C1 := containsC_any (some ⟨b, o, none⟩) nl cl cs (p + 1) q wa hsa (by omega)
      have HSA := Lib.hid hsa
      have HBA := Lib.hid hba
      have HK1 := Lib.hid hk1
      have HK2 := Lib.hid hk2
      have HK3 := Lib.hid hk3
      have HW := Lib.hid hwa
      rw [hwa] at C1
      have HC1 := Lib.hid C1
      clear hwa hba hsa C1 hsl hit miss hp hq hpq hk1 hk2 hk3
      go_wp2_with fail
      refine HC1.out.mono ?_
      rw [← HW.out]
      rintro e w3 ⟨rfl, hb3⟩
      have k1 := HK1.out.below hb3 HK1.out.lt
      have k3 := HK3.out.below hb3 HK3.out.lt
      have hd0 : w3.cell? ⟨wr.heap.size, 0, none⟩ = some (.int .i64 p) := k1.cell 0
      have hd1 : w3.cell? ⟨wr.heap.size, 1, none⟩ = some (.int .i64 q) := k1.cell 1
      have he0 : w3.cell? ⟨wr.heap.size + 1 + 1, 0, none⟩ = some (.int .i64 p) := k3.cell 0
      have he1 : w3.cell? ⟨wr.heap.size + 1 + 1, 1, none⟩ = some (.int .i64 (q + 1)) := k3.cell 1
      have hbw : Below wr.heap.size wr w3 := HBA.out.trans (hb3.mono HBA.out.size)
      have J1 := Lib.hid k1
      have HBW := Lib.hid hbw
      have C2 := containsC_any (some ⟨b, o, none⟩) nl cl cs p (q + 1) w3 (HSA.out.below hb3 (Nat.le_refl _)) (by omega)
      have HC2 := Lib.hid C2
      clear k1 k3 hbw C2 hb3 HC1 hc0 hc1
      cases h1 : hasC cs (p + 1, q) with
      | true =>
        have HX := Lib.hid (MISS.out (.inl h1))
        clear h1
        go_wp2
        go_roundw
        case rel => exact ⟨k + 1, m, A', c', by omega, by go_num, rfl, by rw [HX.out]; exact (HOC.out.below HBW.out (Nat.le_refl _)).wide (Nat.le_refl _) HBW.out.size, HB.out.trans (HBW.out.mono HB.out.size)⟩
        case measure => simp [intOf]; omega
      | false =>
        have H1 := Lib.hid h1
        clear h1
        go_wp2_with fail
        refine HC2.out.mono ?_
        rintro e w4 ⟨rfl, hb4⟩
        have k4 := J1.out.below hb4 J1.out.lt
        have hd0 : w4.cell? ⟨wr.heap.size, 0, none⟩ = some (.int .i64 p) := k4.cell 0
        have hd1 : w4.cell? ⟨wr.heap.size, 1, none⟩ = some (.int .i64 q) := k4.cell 1
        have hbw : Below wr.heap.size wr w4 := HBW.out.trans (hb4.mono HBW.out.size)
        have HBX := Lib.hid hbw
        clear k4 hbw hb4 HC2
        cases h2 : hasC cs (p, q + 1) with
        | true =>
          have HX := Lib.hid (MISS.out (.inr h2))
          clear h2
          go_wp2
          go_roundw
          case rel => exact ⟨k + 1, m, A', c', by omega, by go_num, rfl, by rw [HX.out]; exact (HOC.out.below HBX.out (Nat.le_refl _)).wide (Nat.le_refl _) HBX.out.size, HB.out.trans (HBX.out.mono HB.out.size)⟩
          case measure => simp [intOf]; omega
        | false =>
          have HX := Lib.hid (HIT.out H1.out h2)
          clear h2
          have HO4 := Lib.hid ((HOC.out.below HBX.out (Nat.le_refl _)).wide (Nat.le_refl _) HBX.out.size)
          go_wp2_with (at_builtin; refine wpList_appendC rfl (.tmp 39) (.tmp 41) rfl w1.heap.size A' m c' (essL cs k) p q rfl rfl HO4.out (Nat.le_trans HB.out.size HBX.out.size) hml ?_; intro A2 c2 w6 ho6 hb6 hg6 hn6)
          go_roundw
          case rel => exact ⟨k + 1, m + 1, A2, c2, by omega, by go_num, rfl, by rw [HX.out]; exact ho6, (HB.out.trans (HBX.out.mono HB.out.size)).trans hb6⟩
          case measure => simp [intOf]; omega
    · have hkn : k = nl := by omega
      subst hkn
      go_wp2
      go_ret
      refine ⟨A', m, c', rfl, ?_, HBL.out.trans (HB.out.mono HBL.out.size)⟩
      rw [HE.out, HL.out]
      exact HOC.out.wide HBL.out.size (Nat.le_refl _)
end Go.Proofs.Ytbkhibojbakckaa

/-
  Whether a matrix keeps the ranks at the essential cells of a permutation, on both sides. Conditions: lengths below 2^40.
-/


namespace Go.Proofs.Ytbkhibojbakckaa
open Go.RowKit

theorem dAll_bd {xs bk : List Int} {N : Nat} (h7 : ∀ i, i < xs.length → nth xs i < (N : Int)) {x : Ce} : ∀ {k : Nat}, k ≤ xs.length → x ∈ dAll xs bk k → 0 ≤ x.1 ∧ x.1 < (k : Int) ∧ 0 ≤ x.2 ∧ x.2 < (N : Int)
  | 0, _, h => by simp [dAll] at h
  | k + 1, hk, h => by
    have e : dAll xs bk (k + 1) = dAll xs bk k ++ dRow bk k (nth xs k).toNat := rfl
    rw [e, List.mem_append] at h
    rcases h with h | h
    · have := dAll_bd h7 (by omega) h; omega
    · have := dRow_mem h
      have := h7 k (by omega)
      omega
theorem essL_in {cs : List Ce} {x : Ce} : ∀ k, k ≤ cs.length → x ∈ essL cs k → x ∈ cs
  | 0, _, h => by simp [essL] at h
  | k + 1, hk, h => by
    by_cases hh : hasC cs ((ce cs k).1 + 1, (ce cs k).2) = false ∧ hasC cs ((ce cs k).1, (ce cs k).2 + 1) = false
    · rw [essL_hit hh.1 hh.2, List.mem_append] at h
      rcases h with h | h
      · exact essL_in k (by omega) h
      · simp at h; subst h; exact ce_mem (by omega)
    · have e : essL cs (k + 1) = essL cs k := if_neg hh
      rw [e] at h
      exact essL_in k (by omega) h
theorem ess_bd {xs : List Int} (h : isPermB xs = true) {t : Nat} (ht : t < (essPerm xs).length) : ∃ i j : Nat, ce (essPerm xs) t = ((i : Int), (j : Int)) ∧ i < xs.length ∧ j < xs.length := by
  have hm : ce (essPerm xs) t ∈ diaPerm xs := essL_in _ (Nat.le_refl _) (ce_mem ht)
  generalize ce (essPerm xs) t = x at hm ⊢
  rw [diaPerm_yes h] at hm
  have hp := isPermB_P h
  have hb := dAll_bd (N := xs.length) (fun i hi => (hp.range i hi).2) (Nat.le_refl _) hm
  exact ⟨x.1.toNat, x.2.toNat, by
    apply Prod.ext
    · show x.1 = (x.1.toNat : Int); omega
    · show x.2 = (x.2.toNat : Int); omega, by omega, by omega⟩
theorem Try.infoCe2 : (Try.prog.info? 69).map (·.size) = some 2 := by kernel_rfl
def keepsE (p : Int) (m : Nat) (xs ys : List Int) : Prop := ∀ t, t < (essPerm ys).length → rnkL p (rowsC xs m ((ce (essPerm ys) t).1.toNat + 1) ((ce (essPerm ys) t).2.toNat + 1)) ≤ rankN ys (((ce (essPerm ys) t).2.toNat + 1 : Nat) : Int) ((ce (essPerm ys) t).1.toNat + 1)
instance keepsE.dec (p : Int) (m : Nat) (xs ys : List Int) : Decidable (keepsE p m xs ys) := by unfold keepsE; exact inferInstance
def keB (p R C : Int) (xs ys : List Int) : Bool := sqB p R C xs ys && decide (keepsE p ys.length xs ys)
theorem keB_no1 {p R C : Int} {xs ys : List Int} (h : sqB p R C xs ys = false) : keB p R C xs ys = false := by unfold keB; rw [h]; rfl
theorem keB_no2 {p R C : Int} {xs ys : List Int} (h : ¬ keepsE p ys.length xs ys) : keB p R C xs ys = false := by unfold keB; rw [decide_eq_false h]; simp
theorem keB_yes {p R C : Int} {xs ys : List Int} (h : sqB p R C xs ys = true) (h2 : keepsE p ys.length xs ys) : keB p R C xs ys = true := by unfold keB; rw [h, decide_eq_true h2]; rfl
set_option maxRecDepth 100000 in
set_option maxHeartbeats 4000000 in
theorem specKeepsE_any (p R C : Int) (A B : Option Addr) (n k m d : Nat) (xs ys : List Int) (w : World) (hs : SI w A n xs) (hn : n ≤ 1099511627776) (hnk : n ≤ k) (hy : SI w B m ys) (hm : m ≤ 1099511627776) (hmd : m ≤ d) :
    Calls Try.prog 16 #[.agg #[.int .i64 p, .int .i64 R, .int .i64 C, .slice A n k], .slice B m d] w fun e w' => e = .returned (.bool (keB p R C xs ys)) ∧ Below w.heap.size w w' := by
  obtain ⟨w1, hw1⟩ : ∃ w1, w1 = w.alloc (.cells #[.int .i64 p, .int .i64 R, .int .i64 C, .slice A n k] 27) := ⟨_, rfl⟩
  obtain ⟨g, hg⟩ : ∃ g, g = w.heap.size := ⟨_, rfl⟩
  have hk : Blk w1 g 27 #[.int .i64 p, .int .i64 R, .int .i64 C, .slice A n k] := by rw [hw1, hg]; exact Blk.new _ _ _
  have hb : Below w.heap.size w w1 := by rw [hw1]; exact Below.alloc_self _ _
  have HB := Lib.hid hb
  have HW := Lib.hid hw1
  have HG := Lib.hid hg
  have HK := Lib.hid hk
  have HGL : Hid (g < w1.heap.size ∧ w.heap.size ≤ w1.heap.size) := Lib.hid ⟨hk.lt, hb.size⟩
  have HS := Lib.hid (hs.below hb (Nat.le_refl _))
  have HY := Lib.hid (hy.below hb (Nat.le_refl _))
  have HYL := Lib.hid hy.1
  have HSQ := Lib.hid (specSquare_any p R C A B n k m d xs ys w1 HS.out hn HY.out hm hmd)
  have HES := Lib.hid (fun w' (hb' : Below w1.heap.size w1 w') => specEssential_any B m d ys w' (HY.out.below hb' (Nat.le_refl _)) hmd hm)
  clear hw1 hg hk hb hs hy
  cases hu : sqB p R C xs ys with
  | false =>
    rw [hu] at HSQ
    have HF := Lib.hid (keB_no1 hu)
    clear hu
    go_enter Try.func16, Try.ntmps16
    go_upto_region 1 with fail
    rw [← HW.out, ← HG.out]
    go_wp2_with (first
      | (refine wpList_load_rowP rfl 27 (.tmp 2) rfl g rfl 27 #[.int .i64 p, .int .i64 R, .int .i64 C, .slice A n k] _ HK.out Try.underlying27 rfl Try.infoMx ?_)
      | (go_at_call 62; with_reducible refine HSQ.out.mono ?_; rintro e w2 ⟨rfl, hb2⟩; have HB2 := Lib.hid hb2; clear hb2)
      | fail)
    go_ret
    exact ⟨ret_bool HF.out.symm, HB.out.trans (HB2.out.mono HGL.out.2)⟩
  | true =>
    rw [hu] at HSQ
    obtain ⟨rfl, rfl, hmat, hperm, hm1, hm7, hxl⟩ := sq_nats HYL.out hu
    have HM := Lib.hid hmat
    have HPB := Lib.hid hperm
    have HXL := Lib.hid hxl
    have HU := Lib.hid hu
    have HEB := Lib.hid (fun t (ht : t < (essPerm ys).length) => ess_bd hperm ht)
    have HESM := Lib.hid (essPerm_small ys)
    obtain ⟨es, hes⟩ : ∃ es, es = essPerm ys := ⟨_, rfl⟩
    have HESD := Lib.hid hes
    rw [← hes] at HES HEB HESM
    clear hu hmat hperm hxl hes
    go_enter Try.func16, Try.ntmps16
    go_upto_region 1 with fail
    rw [← HW.out, ← HG.out]
    go_wp2_with (first
      | (refine wpList_load_rowP rfl 27 (.tmp 2) rfl g rfl 27 #[.int .i64 p, .int .i64 (m : Int), .int .i64 (m : Int), .slice A n k] _ HK.out Try.underlying27 rfl Try.infoMx ?_)
      | (go_at_call 62; with_reducible refine HSQ.out.mono ?_; rintro e w2 ⟨rfl, hb2⟩; have HB2 := Lib.hid hb2; clear hb2)
      | (go_at_call 63
         with_reducible refine (HES.out _ HB2.out).mono ?_
         rintro e w3 ⟨Ae, ne, ce3, rfl, hoe, hb3⟩
         have HOE := Lib.hid hoe.si
         have HEL := Lib.hid hoe.len
         have HZ3 : Hid (w2.heap.size ≤ w3.heap.size) := Lib.hid hb3.size
         have HB3 : Hid (Below w1.heap.size w1 w3) := Lib.hid (HB2.out.trans (hb3.mono HB2.out.size))
         have hne49 : ne ≤ 49 := by have := HESM.out; have := hoe.len; omega
         clear hoe hb3)
      | fail)
    go_loopw [6] (fun tv wr => ∃ t : Nat, t ≤ ne ∧ tv = .int .i64 t ∧ Below w3.heap.size w3 wr ∧ ∀ x, x < t → rnkL p (rowsC xs m ((ce es x).1.toNat + 1) ((ce es x).2.toNat + 1)) ≤ rankN ys (((ce es x).2.toNat + 1 : Nat) : Int) ((ce es x).1.toNat + 1))
      (fun tv _ => ne - (intOf tv).toNat)
    case atStart => exact ⟨0, Nat.zero_le _, rfl, Below.refl _ _, fun x hx => absurd hx (by omega)⟩
    case round =>
      obtain ⟨t, ht, rfl, hbr, hall⟩ := hrel
      have HALL := Lib.hid hall
      have HB3R := Lib.hid hbr
      have HBR : Hid (Below w1.heap.size w1 wr) := Lib.hid (HB3.out.trans (hbr.mono HB3.out.size))
      have HKr := Lib.hid (HK.out.below HBR.out HGL.out.1)
      have hoe := HOE.out.below hbr (Nat.le_refl _)
      clear hbr hall
      by_cases hlt : t < ne
      case neg =>
        obtain rfl : t = ne := by omega
        have HT := Lib.hid (keB_yes HU.out (by rw [HYL.out]; unfold keepsE; rw [← HESD.out, HEL.out]; exact HALL.out))
        clear hoe
        go_wp2
        go_ret
        exact ⟨ret_bool HT.out.symm, HB.out.trans (HBR.out.mono HGL.out.2)⟩
      case pos =>
        have htI : (t : Int) < (ne : Int) := by omega
        obtain ⟨i, j, hij, hi, hj⟩ := HEB.out t (by rw [HEL.out]; exact hlt)
        rw [HYL.out] at hi hj
        obtain ⟨b, o, rfl, hbb, hc1, hc2⟩ := hoe.at_ hlt
        rw [hij] at hc1 hc2
        have hc1' : wr.cell? ⟨b, o + t * 2, none⟩ = some (.int .i64 (i : Int)) := hc1
        have hc2' : wr.cell? ⟨b, o + t * 2 + 1, none⟩ = some (.int .i64 (j : Int)) := hc2
        have HIJ := Lib.hid hij
        have hwi : IntKind.i64.wrap ((i : Int) + 1) = ((i + 1 : Nat) : Int) := by rw [Int.natCast_add]; exact IntWalk.i64_in _ (by omega)
        have hwj : IntKind.i64.wrap ((j : Int) + 1) = ((j + 1 : Nat) : Int) := by rw [Int.natCast_add]; exact IntWalk.i64_in _ (by omega)
        obtain ⟨r, hr⟩ : ∃ r, r = i + 1 := ⟨_, rfl⟩
        obtain ⟨c, hc⟩ : ∃ c, c = j + 1 := ⟨_, rfl⟩
        rw [← hr] at hwi
        rw [← hc] at hwj
        have hrm : r ≤ m := by omega
        have hcm : c ≤ m := by omega
        have HRC : Hid ((ce es t).1.toNat + 1 = r ∧ (ce es t).2.toNat + 1 = c) := Lib.hid (by rw [hij, hr, hc]; simp)
        obtain ⟨K, hK⟩ : ∃ K, K = rnkL p (rowsC xs m r c) := ⟨_, rfl⟩
        obtain ⟨Q, hQ⟩ : ∃ Q, Q = rankN ys (c : Int) r := ⟨_, rfl⟩
        have HBAD : Hid (¬ K ≤ Q → keB p (m : Int) (m : Int) xs ys = false) := Lib.hid (fun h => keB_no2 (fun hk => h (by
          have h5 := hk t (by rw [← HESD.out, HEL.out]; exact hlt)
          rw [HYL.out, ← HESD.out, HRC.out.1, HRC.out.2] at h5
          rw [hK, hQ]; exact h5)))
        have HGOOD : Hid (K ≤ Q → rnkL p (rowsC xs m ((ce es t).1.toNat + 1) ((ce es t).2.toNat + 1)) ≤ rankN ys (((ce es t).2.toNat + 1 : Nat) : Int) ((ce es t).1.toNat + 1)) := Lib.hid (fun h => by
          rw [HRC.out.1, HRC.out.2, ← hK, ← hQ]; exact h)
        have HCO := fun w' (hb' : Below wr.heap.size wr w') => l7Corner_any p m m r c A n k xs w' HM.out.1 ((HS.out.below HBR.out (Nat.le_refl _)).below hb' (Nat.le_refl _)) (by omega) (by omega) hrm hcm HM.out.rg HXL.out hnk
        rw [← hK] at HCO
        have HCO := Lib.hid HCO
        have HRK := fun w' (hb' : Below wr.heap.size wr w') => l1Rank_any B m d r ys (c : Int) w' ((HY.out.below HBR.out (Nat.le_refl _)).below hb' (Nat.le_refl _)) (by omega) hm
        rw [← hQ] at HRK
        have HRK := Lib.hid HRK
        have hq0 : wr.cell? ⟨g, 0, none⟩ = some (.int .i64 p) ∧ wr.cell? ⟨g, 1, none⟩ = some (.int .i64 (m : Int)) ∧ wr.cell? ⟨g, 2, none⟩ = some (.int .i64 (m : Int)) ∧ wr.cell? ⟨g, 3, none⟩ = some (.slice A n k) ∧ wr.cell? ⟨b, o + t * 2, none⟩ = some (.int .i64 (i : Int)) ∧ wr.cell? ⟨b, o + t * 2 + 1, none⟩ = some (.int .i64 (j : Int)) := ⟨HKr.out.cell 0, HKr.out.cell 1, HKr.out.cell 2, HKr.out.cell 3, hc1', hc2'⟩
        have hqd : wr.drew.cell? ⟨g, 0, none⟩ = some (.int .i64 p) ∧ wr.drew.cell? ⟨g, 1, none⟩ = some (.int .i64 (m : Int)) ∧ wr.drew.cell? ⟨g, 2, none⟩ = some (.int .i64 (m : Int)) ∧ wr.drew.cell? ⟨g, 3, none⟩ = some (.slice A n k) ∧ wr.drew.cell? ⟨b, o + t * 2, none⟩ = some (.int .i64 (i : Int)) ∧ wr.drew.cell? ⟨b, o + t * 2 + 1, none⟩ = some (.int .i64 (j : Int)) := hq0
        have HQ := Lib.hid hq0
        have HQD := Lib.hid hqd
        have HLT : Hid (g < wr.heap.size ∧ b < wr.heap.size) := Lib.hid ⟨HKr.out.lt, hbb⟩
        have HKEEP : Hid (∀ w', Below wr.heap.size wr w' → w'.cell? ⟨g, 0, none⟩ = some (.int .i64 p) ∧ w'.cell? ⟨g, 1, none⟩ = some (.int .i64 (m : Int)) ∧ w'.cell? ⟨g, 2, none⟩ = some (.int .i64 (m : Int)) ∧ w'.cell? ⟨g, 3, none⟩ = some (.slice A n k) ∧ w'.cell? ⟨b, o + t * 2, none⟩ = some (.int .i64 (i : Int)) ∧ w'.cell? ⟨b, o + t * 2 + 1, none⟩ = some (.int .i64 (j : Int))) := Lib.hid (fun w' hb' => ⟨(HKr.out.below hb' HLT.out.1).cell 0, (HKr.out.below hb' HLT.out.1).cell 1, (HKr.out.below hb' HLT.out.1).cell 2, (HKr.out.below hb' HLT.out.1).cell 3, (hb'.cell (p := ⟨b, o + t * 2, none⟩) HLT.out.2).trans hc1', (hb'.cell (p := ⟨b, o + t * 2 + 1, none⟩) HLT.out.2).trans hc2'⟩)
        clear hoe hc1 hc2 hc1' hc2' hij hq0 hqd hbb hr hc
        by_cases hKQ : K ≤ Q
        case pos =>
          have HKQ := Lib.hid (HGOOD.out hKQ)
          have hgt : ¬ (K : Int) > (Q : Int) := by omega
          clear hK hQ hKQ
          go_wp2_with fail
          go_region_held3 (fun w' => w'.cell? ⟨g, 0, none⟩ = some (.int .i64 p) ∧ w'.cell? ⟨g, 1, none⟩ = some (.int .i64 (m : Int)) ∧ w'.cell? ⟨g, 2, none⟩ = some (.int .i64 (m : Int)) ∧ w'.cell? ⟨g, 3, none⟩ = some (.slice A n k) ∧ w'.cell? ⟨b, o + t * 2, none⟩ = some (.int .i64 (i : Int)) ∧ w'.cell? ⟨b, o + t * 2 + 1, none⟩ = some (.int .i64 (j : Int)))
            (first | exact HQD.out | exact HQ.out | exact K4 | exact K5 | exact K6)
            (first
              | (go_at_call 64
                 with_reducible refine (HCO.out _ HBC.out).mono ?_
                 rintro e w6 ⟨rfl, hb6⟩
                 have HB6 : Hid (Below wr.heap.size wr w6) := Lib.hid (HBC.out.trans (hb6.mono HBC.out.size))
                 have K6 := HKEEP.out _ HB6.out
                 clear hb6)
              | (go_at_call 65
                 with_reducible refine (HRK.out _ HBA.out).mono ?_
                 rintro e w6 ⟨rfl, hd6⟩
                 have HB6 : Hid (Below wr.heap.size wr w6) := Lib.hid (HBA.out.trans (hd6.below _))
                 have K6 := HKEEP.out _ HB6.out
                 clear hd6)
              | (go_at_call 64
                 with_reducible refine (HCO.out _ ((Below.refl _ _).drew)).mono ?_
                 rintro e w4 ⟨rfl, hb4⟩
                 have HBA : Hid (Below wr.heap.size wr w4) := Lib.hid (((Below.refl _ _).drew).trans hb4)
                 have K4 := HKEEP.out _ HBA.out
                 clear hb4)
              | (go_at_call 65
                 with_reducible refine (HRK.out _ ((Below.refl _ _).drew)).mono ?_
                 rintro e w5 ⟨rfl, hd5⟩
                 have HBC : Hid (Below wr.heap.size wr w5) := Lib.hid (((Below.refl _ _).drew).trans (hd5.below _))
                 have K5 := HKEEP.out _ HBC.out
                 clear hd5))
          all_goals
            (clear HQ HQD
             go_wp2_with fail
             go_roundw
             case rel => exact ⟨t + 1, by omega, by go_num, HB3R.out.trans (HB6.out.mono HB3R.out.size), fun x hx => by
               by_cases e : x = t
               · rw [e]; exact HKQ.out
               · exact HALL.out x (by omega)⟩
             case measure => simp [intOf]; omega)
        case neg =>
          have HF := Lib.hid (HBAD.out hKQ)
          have hgt : (K : Int) > (Q : Int) := by omega
          clear hK hQ hKQ
          go_wp2_with fail
          go_region_held3 (fun w' => w'.cell? ⟨g, 0, none⟩ = some (.int .i64 p) ∧ w'.cell? ⟨g, 1, none⟩ = some (.int .i64 (m : Int)) ∧ w'.cell? ⟨g, 2, none⟩ = some (.int .i64 (m : Int)) ∧ w'.cell? ⟨g, 3, none⟩ = some (.slice A n k) ∧ w'.cell? ⟨b, o + t * 2, none⟩ = some (.int .i64 (i : Int)) ∧ w'.cell? ⟨b, o + t * 2 + 1, none⟩ = some (.int .i64 (j : Int)))
            (first | exact HQD.out | exact HQ.out | exact K4 | exact K5 | exact K6)
            (first
              | (go_at_call 64
                 with_reducible refine (HCO.out _ HBC.out).mono ?_
                 rintro e w6 ⟨rfl, hb6⟩
                 have HB6 : Hid (Below wr.heap.size wr w6) := Lib.hid (HBC.out.trans (hb6.mono HBC.out.size))
                 have K6 := HKEEP.out _ HB6.out
                 clear hb6)
              | (go_at_call 65
                 with_reducible refine (HRK.out _ HBA.out).mono ?_
                 rintro e w6 ⟨rfl, hd6⟩
                 have HB6 : Hid (Below wr.heap.size wr w6) := Lib.hid (HBA.out.trans (hd6.below _))
                 have K6 := HKEEP.out _ HB6.out
                 clear hd6)
              | (go_at_call 64
                 with_reducible refine (HCO.out _ ((Below.refl _ _).drew)).mono ?_
                 rintro e w4 ⟨rfl, hb4⟩
                 have HBA : Hid (Below wr.heap.size wr w4) := Lib.hid (((Below.refl _ _).drew).trans hb4)
                 have K4 := HKEEP.out _ HBA.out
                 clear hb4)
              | (go_at_call 65
                 with_reducible refine (HRK.out _ ((Below.refl _ _).drew)).mono ?_
                 rintro e w5 ⟨rfl, hd5⟩
                 have HBC : Hid (Below wr.heap.size wr w5) := Lib.hid (((Below.refl _ _).drew).trans (hd5.below _))
                 have K5 := HKEEP.out _ HBC.out
                 clear hd5))
          all_goals
            (clear HQ HQD
             go_wp2_with fail
             go_ret
             exact ⟨ret_bool HF.out.symm, HB.out.trans ((HBR.out.trans (HB6.out.mono HBR.out.size)).mono HGL.out.2)⟩)
set_option maxRecDepth 100000 in
set_option maxHeartbeats 4000000 in
theorem implKeepsE_any (p R C : Int) (A B : Option Addr) (n k m d : Nat) (xs ys : List Int) (w : World) (hs : SI w A n xs) (hn : n ≤ 1099511627776) (hnk : n ≤ k) (hy : SI w B m ys) (hm : m ≤ 1099511627776) (hmd : m ≤ d) :
    Calls Try.prog 19 #[.agg #[.int .i64 p, .int .i64 R, .int .i64 C, .slice A n k], .slice B m d] w fun e w' => e = .returned (.bool (keB p R C xs ys)) ∧ Below w.heap.size w w' := by
  obtain ⟨w1, hw1⟩ : ∃ w1, w1 = w.alloc (.cells #[.int .i64 p, .int .i64 R, .int .i64 C, .slice A n k] 27) := ⟨_, rfl⟩
  obtain ⟨g, hg⟩ : ∃ g, g = w.heap.size := ⟨_, rfl⟩
  have hk : Blk w1 g 27 #[.int .i64 p, .int .i64 R, .int .i64 C, .slice A n k] := by rw [hw1, hg]; exact Blk.new _ _ _
  have hb : Below w.heap.size w w1 := by rw [hw1]; exact Below.alloc_self _ _
  have HB := Lib.hid hb
  have HW := Lib.hid hw1
  have HG := Lib.hid hg
  have HK := Lib.hid hk
  have HGL : Hid (g < w1.heap.size ∧ w.heap.size ≤ w1.heap.size) := Lib.hid ⟨hk.lt, hb.size⟩
  have HS := Lib.hid (hs.below hb (Nat.le_refl _))
  have HY := Lib.hid (hy.below hb (Nat.le_refl _))
  have HYL := Lib.hid hy.1
  have HSQ := Lib.hid (implSquare_any p R C A B n k m d xs ys w1 HS.out hn HY.out hm hmd)
  have HES := Lib.hid (fun w' (hb' : Below w1.heap.size w1 w') => implEssential_any B m d ys w' (HY.out.below hb' (Nat.le_refl _)) hm)
  clear hw1 hg hk hb hs hy
  cases hu : sqB p R C xs ys with
  | false =>
    rw [hu] at HSQ
    have HF := Lib.hid (keB_no1 hu)
    clear hu
    go_enter Try.func19, Try.ntmps19
    go_upto_region 1 with fail
    rw [← HW.out, ← HG.out]
    go_wp2_with (first
      | (refine wpList_load_rowP rfl 27 (.tmp 2) rfl g rfl 27 #[.int .i64 p, .int .i64 R, .int .i64 C, .slice A n k] _ HK.out Try.underlying27 rfl Try.infoMx ?_)
      | (go_at_call 66; with_reducible refine HSQ.out.mono ?_; rintro e w2 ⟨rfl, hb2⟩; have HB2 := Lib.hid hb2; clear hb2)
      | fail)
    go_ret
    exact ⟨ret_bool HF.out.symm, HB.out.trans (HB2.out.mono HGL.out.2)⟩
  | true =>
    rw [hu] at HSQ
    obtain ⟨rfl, rfl, hmat, hperm, hm1, hm7, hxl⟩ := sq_nats HYL.out hu
    have HM := Lib.hid hmat
    have HPB := Lib.hid hperm
    have HXL := Lib.hid hxl
    have HU := Lib.hid hu
    have HEB := Lib.hid (fun t (ht : t < (essPerm ys).length) => ess_bd hperm ht)
    have HESM := Lib.hid (essPerm_small ys)
    obtain ⟨es, hes⟩ : ∃ es, es = essPerm ys := ⟨_, rfl⟩
    have HESD := Lib.hid hes
    rw [← hes] at HES HEB HESM
    clear hu hmat hperm hxl hes
    go_enter Try.func19, Try.ntmps19
    go_upto_region 1 with fail
    rw [← HW.out, ← HG.out]
    go_wp2_with (first
      | (refine wpList_load_rowP rfl 27 (.tmp 2) rfl g rfl 27 #[.int .i64 p, .int .i64 (m : Int), .int .i64 (m : Int), .slice A n k] _ HK.out Try.underlying27 rfl Try.infoMx ?_)
      | (go_at_call 66; with_reducible refine HSQ.out.mono ?_; rintro e w2 ⟨rfl, hb2⟩; have HB2 := Lib.hid hb2; clear hb2)
      | (go_at_call 67
         with_reducible refine (HES.out _ HB2.out).mono ?_
         rintro e w3 ⟨Ae, ne, ce3, rfl, hoe, hb3⟩
         have HOE := Lib.hid hoe.si
         have HEL := Lib.hid hoe.len
         have HZ3 : Hid (w2.heap.size ≤ w3.heap.size) := Lib.hid hb3.size
         have HB3 : Hid (Below w1.heap.size w1 w3) := Lib.hid (HB2.out.trans (hb3.mono HB2.out.size))
         have hne49 : ne ≤ 49 := by have := HESM.out; have := hoe.len; omega
         clear hoe hb3)
      | fail)
    go_loopw [14] (fun tv wr => ∃ t : Nat, t ≤ ne ∧ tv = .int .i64 t ∧ Below w3.heap.size w3 wr ∧ ∀ x, x < t → rnkL p (rowsC xs m ((ce es x).1.toNat + 1) ((ce es x).2.toNat + 1)) ≤ rankN ys (((ce es x).2.toNat + 1 : Nat) : Int) ((ce es x).1.toNat + 1))
      (fun tv _ => ne - (intOf tv).toNat)
    case atStart => exact ⟨0, Nat.zero_le _, rfl, Below.refl _ _, fun x hx => absurd hx (by omega)⟩
    case round =>
      obtain ⟨t, ht, rfl, hbr, hall⟩ := hrel
      have HALL := Lib.hid hall
      have HB3R := Lib.hid hbr
      have HBR : Hid (Below w1.heap.size w1 wr) := Lib.hid (HB3.out.trans (hbr.mono HB3.out.size))
      have HKr := Lib.hid (HK.out.below HBR.out HGL.out.1)
      have hoe := HOE.out.below hbr (Nat.le_refl _)
      clear hbr hall
      by_cases hlt : t < ne
      case neg =>
        obtain rfl : t = ne := by omega
        have HT := Lib.hid (keB_yes HU.out (by rw [HYL.out]; unfold keepsE; rw [← HESD.out, HEL.out]; exact HALL.out))
        clear hoe
        go_wp2
        go_ret
        exact ⟨ret_bool HT.out.symm, HB.out.trans (HBR.out.mono HGL.out.2)⟩
      case pos =>
        have htI : (t : Int) < (ne : Int) := by omega
        obtain ⟨i, j, hij, hi, hj⟩ := HEB.out t (by rw [HEL.out]; exact hlt)
        rw [HYL.out] at hi hj
        obtain ⟨b, o, rfl, hbb, hc1, hc2⟩ := hoe.at_ hlt
        rw [hij] at hc1 hc2
        have hc1' : wr.cell? ⟨b, o + t * 2, none⟩ = some (.int .i64 (i : Int)) := hc1
        have hc2' : wr.cell? ⟨b, o + t * 2 + 1, none⟩ = some (.int .i64 (j : Int)) := hc2
        have HIJ := Lib.hid hij
        have hwi : IntKind.i64.wrap ((i : Int) + 1) = ((i + 1 : Nat) : Int) := by rw [Int.natCast_add]; exact IntWalk.i64_in _ (by omega)
        have hwj : IntKind.i64.wrap ((j : Int) + 1) = ((j + 1 : Nat) : Int) := by rw [Int.natCast_add]; exact IntWalk.i64_in _ (by omega)
        obtain ⟨r, hr⟩ : ∃ r, r = i + 1 := ⟨_, rfl⟩
        obtain ⟨c, hc⟩ : ∃ c, c = j + 1 := ⟨_, rfl⟩
        rw [← hr] at hwi
        rw [← hc] at hwj
        have hrm : r ≤ m := by omega
        have hcm : c ≤ m := by omega
        have HRC : Hid ((ce es t).1.toNat + 1 = r ∧ (ce es t).2.toNat + 1 = c) := Lib.hid (by rw [hij, hr, hc]; simp)
        obtain ⟨K, hK⟩ : ∃ K, K = rnkL p (rowsC xs m r c) := ⟨_, rfl⟩
        obtain ⟨Q, hQ⟩ : ∃ Q, Q = rankN ys (c : Int) r := ⟨_, rfl⟩
        have HBAD : Hid (¬ K ≤ Q → keB p (m : Int) (m : Int) xs ys = false) := Lib.hid (fun h => keB_no2 (fun hk => h (by
          have h5 := hk t (by rw [← HESD.out, HEL.out]; exact hlt)
          rw [HYL.out, ← HESD.out, HRC.out.1, HRC.out.2] at h5
          rw [hK, hQ]; exact h5)))
        have HGOOD : Hid (K ≤ Q → rnkL p (rowsC xs m ((ce es t).1.toNat + 1) ((ce es t).2.toNat + 1)) ≤ rankN ys (((ce es t).2.toNat + 1 : Nat) : Int) ((ce es t).1.toNat + 1)) := Lib.hid (fun h => by
          rw [HRC.out.1, HRC.out.2, ← hK, ← hQ]; exact h)
        have HKP := Lib.hid (fun w' (hb' : Below wr.heap.size wr w') => keepsRank_any p (m : Int) (m : Int) A B n k m d xs ys (r : Int) (c : Int) w' ((HS.out.below HBR.out (Nat.le_refl _)).below hb' (Nat.le_refl _)) hn hnk ((HY.out.below HBR.out (Nat.le_refl _)).below hb' (Nat.le_refl _)) hm (K : Int) (Q : Int)
              (by rw [crnK_yes ⟨HM.out, by omega, by omega⟩, hK]; simp) (by rw [rankPerm_yes HPB.out (by rw [HYL.out]; omega) (by omega) (by rw [HYL.out]; omega), hQ]))
        clear hoe hc1 hc2 hij hbb hr hc
        by_cases hKQ : K ≤ Q
        case pos =>
          have HKQ := Lib.hid (HGOOD.out hKQ)
          simp only [decide_eq_true (show (K : Int) ≤ (Q : Int) by omega)] at HKP
          clear hK hQ hKQ
          go_upto_region 6 with (first
            | (refine wpList_store_rowP rfl 69 (.tmp 6) (.tmp 17) rfl wr.heap.size #[.int .i64 (i : Int), .int .i64 (j : Int)] rfl rfl 69 #[.int .i64 0, .int .i64 0] (Blk.new _ _ _) Try.infoCe2 rfl (by simp [Value.oneCell']) ?_
               intro wa hba hga
               have HBA := Lib.hid hba
               have HGA := Lib.hid hga
               clear hba hga)
            | fail)
          obtain ⟨ga, hga⟩ : ∃ ga, ga = wr.heap.size := ⟨_, rfl⟩
          rw [← hga] at HBA HGA ⊢
          have HBW : Hid (Below wr.heap.size wr wa) := Lib.hid (((Below.refl _ wr).alloc (Nat.le_refl _) _).grown HGA.out (by simp) (by rintro q ⟨⟩; omega))
          have HKa := Lib.hid (HKr.out.below HBW.out HKr.out.lt)
          have a0 : wa.cell? ⟨ga, 0, none⟩ = some (.int .i64 (i : Int)) := HBA.out.cell 0
          have a1 : wa.cell? ⟨ga, 1, none⟩ = some (.int .i64 (j : Int)) := HBA.out.cell 1
          clear hga
          go_wp2_with (first
            | (refine wpList_load_rowP rfl 27 (.tmp 2) rfl g rfl 27 #[.int .i64 p, .int .i64 (m : Int), .int .i64 (m : Int), .slice A n k] _ HKa.out Try.underlying27 rfl Try.infoMx ?_)
            | (go_at_call 68; with_reducible refine (HKP.out _ HBW.out).mono ?_; rintro e w6 ⟨rfl, hb6⟩; have HB6 : Hid (Below wr.heap.size wr w6) := Lib.hid (HBW.out.trans (hb6.mono HBW.out.size)); clear hb6)
            | fail)
          go_roundw
          case rel => exact ⟨t + 1, by omega, by go_num, HB3R.out.trans (HB6.out.mono HB3R.out.size), fun x hx => by
            by_cases e : x = t
            · rw [e]; exact HKQ.out
            · exact HALL.out x (by omega)⟩
          case measure => simp [intOf]; omega
        case neg =>
          have HF := Lib.hid (HBAD.out hKQ)
          simp only [decide_eq_false (show ¬ (K : Int) ≤ (Q : Int) by omega)] at HKP
          clear hK hQ hKQ
          go_upto_region 6 with (first
            | (refine wpList_store_rowP rfl 69 (.tmp 6) (.tmp 17) rfl wr.heap.size #[.int .i64 (i : Int), .int .i64 (j : Int)] rfl rfl 69 #[.int .i64 0, .int .i64 0] (Blk.new _ _ _) Try.infoCe2 rfl (by simp [Value.oneCell']) ?_
               intro wa hba hga
               have HBA := Lib.hid hba
               have HGA := Lib.hid hga
               clear hba hga)
            | fail)
          obtain ⟨ga, hga⟩ : ∃ ga, ga = wr.heap.size := ⟨_, rfl⟩
          rw [← hga] at HBA HGA ⊢
          have HBW : Hid (Below wr.heap.size wr wa) := Lib.hid (((Below.refl _ wr).alloc (Nat.le_refl _) _).grown HGA.out (by simp) (by rintro q ⟨⟩; omega))
          have HKa := Lib.hid (HKr.out.below HBW.out HKr.out.lt)
          have a0 : wa.cell? ⟨ga, 0, none⟩ = some (.int .i64 (i : Int)) := HBA.out.cell 0
          have a1 : wa.cell? ⟨ga, 1, none⟩ = some (.int .i64 (j : Int)) := HBA.out.cell 1
          clear hga
          go_wp2_with (first
            | (refine wpList_load_rowP rfl 27 (.tmp 2) rfl g rfl 27 #[.int .i64 p, .int .i64 (m : Int), .int .i64 (m : Int), .slice A n k] _ HKa.out Try.underlying27 rfl Try.infoMx ?_)
            | (go_at_call 68; with_reducible refine (HKP.out _ HBW.out).mono ?_; rintro e w6 ⟨rfl, hb6⟩; have HB6 : Hid (Below wr.heap.size wr w6) := Lib.hid (HBW.out.trans (hb6.mono HBW.out.size)); clear hb6)
            | fail)
          go_ret
          exact ⟨ret_bool HF.out.symm, HB.out.trans ((HBR.out.trans (HB6.out.mono HBR.out.size)).mono HGL.out.2)⟩
end Go.Proofs.Ytbkhibojbakckaa

/-
  Opening a slice of integers that came in; closed facts of this dump. No conditions.
-/




namespace Go.Proofs.Ytbkhibojbakckaa
open Go.ChangeShapes Go.WideShapes Go.ChangeAt Go.RowKit

theorem own : ownKnob Try.prog.godebug = none := by kernel_rfl
theorem laidOut : laidOutB Try.prog = true := by kernel_rfl

/-- What an opened slice of integers gives: it reads as its numbers. -/
theorem SI.of_cells {w : World} {a : Addr} {n : Nat} {zs : List Int} (hl : n ≤ zs.length) (hc : ∀ i, i < zs.length → w.cell? (a.add i) = some (.int .i64 (zs.getD i 0))) : SI w (some a) n (zs.take n) := by
  refine ⟨by simp; omega, fun hn => ?_⟩
  obtain ⟨b, o, s⟩ := a
  have h0 := hc 0 (by omega)
  have hs : s = none := by simpa [Addr.add] using World.cell?_spot h0
  subst hs
  refine ⟨b, o, rfl, block_lt_of_cell (a := ⟨b, o, none⟩) (by simpa [Addr.add] using h0), fun k hk => ?_⟩
  rw [nth_take hk, ← add_pt]
  exact hc k (by omega)

/-- Every number fits an int. -/
def Fits (xs : List Int) : Prop := ∀ x ∈ xs, -9223372036854775808 ≤ x ∧ x ≤ 9223372036854775807
theorem SI.of_trod {H : Type} {enc : TypeId × Value → H} {W : World} {q : Nat} {f : Nat → Bool} {a0 : Option Addr} {len0 cap0 : Nat} {d : DataW H} {p : List MemPlace}
    (h0 : DataW.Trod enc Try.prog W q f true 22 (.slice a0 len0 cap0) d p) : ∃ xs, SI W a0 len0 xs ∧ Fits xs := by
  obtain ⟨fuel, hf⟩ := h0
  rcases open_ints Try.underlying22 Try.underlying3 (by kernel_rfl) hf with ⟨hcs, _⟩ | ⟨x, l, c, zs, hcs, _, hl, hm, hz, _, hcell, hwz⟩
  · simp [Value.cells] at hcs
    obtain ⟨rfl, rfl, rfl⟩ := hcs
    exact ⟨[], SI.nil _ _, fun x hx => by cases hx⟩
  · simp [Value.cells] at hcs
    obtain ⟨rfl, rfl, rfl⟩ := hcs
    exact ⟨_, SI.of_cells (by rw [hz]; split <;> omega) hcell, fun n hn => bounds_i64 (hwz n (List.mem_of_mem_take hn))⟩
end Go.Proofs.Ytbkhibojbakckaa

/-
  Opening a puzzle that came in. No conditions.
-/


namespace Go.Proofs.Ytbkhibojbakckaa
open Go.ChangeShapes Go.WideShapes Go.ChangeAt Go.RowKit

theorem Blk.within_ {w w' : World} {g lo hi : Nat} {t : TypeId} {cs : Array Value} (h : Blk w g t cs) (hw : Within lo hi w w') (hd : g < lo ∨ hi ≤ g) : Blk w' g t cs := (hw.2.2.2.2 g h.lt hd).trans h
/-- Three slices that read as lists. -/
def PS (w : World) (A1 A2 A3 : Option Addr) (n1 n2 n3 : Nat) (x1 x2 x3 : List Int) : Prop := SI w A1 n1 x1 ∧ SI w A2 n2 x2 ∧ SI w A3 n3 x3
theorem PS.below {w w' : World} {A1 A2 A3 : Option Addr} {n1 n2 n3 B : Nat} {x1 x2 x3 : List Int} (h : PS w A1 A2 A3 n1 n2 n3 x1 x2 x3) (hb : Below B w w') (hB : w.heap.size ≤ B) : PS w' A1 A2 A3 n1 n2 n3 x1 x2 x3 := ⟨h.1.below hb hB, h.2.1.below hb hB, h.2.2.below hb hB⟩
theorem PS.lens {w : World} {A1 A2 A3 : Option Addr} {n1 n2 n3 : Nat} {x1 x2 x3 : List Int} (h : PS w A1 A2 A3 n1 n2 n3 x1 x2 x3) : x1.length = n1 ∧ x2.length = n2 ∧ x3.length = n3 := ⟨h.1.1, h.2.1.1, h.2.2.1⟩
theorem OwnP.len {w : World} {lo hi n1 c1 n2 c2 n3 c3 : Nat} {A1 A2 A3 : Option Addr} {x1 x2 x3 : List Int} (h : OwnP w lo hi A1 A2 A3 n1 c1 n2 c2 n3 c3 x1 x2 x3) : x1.length = n1 ∧ x2.length = n2 ∧ x3.length = n3 := h.lens
theorem OwnP.caps {w : World} {lo hi n1 c1 n2 c2 n3 c3 : Nat} {A1 A2 A3 : Option Addr} {x1 x2 x3 : List Int} (h : OwnP w lo hi A1 A2 A3 n1 c1 n2 c2 n3 c3 x1 x2 x3) : n1 ≤ c1 ∧ n2 ≤ c2 ∧ n3 ≤ c3 := by
  obtain ⟨p, q, _, _, _, h1, h2, h3⟩ := h; exact ⟨h1.cap, h2.cap, h3.cap⟩
end Go.Proofs.Ytbkhibojbakckaa

/-
  Opening a matrix that came in. No conditions.
-/



namespace Go.Proofs.Ytbkhibojbakckaa
open Go.ChangeShapes Go.WideShapes Go.ChangeAt Go.RowKit

theorem MX.of_trod {H : Type} {enc : TypeId × Value → H} {W : World} {q : Nat} {f : Nat → Bool} {cs : Array Value} {d : DataW H} {p : List MemPlace} (hsz : cs.size = 4)
    (h0 : DataW.Trod enc Try.prog W q f true 24 (.agg cs) d p) : ∃ (P R C : Int) (A : Option Addr) (n k : Nat) (xs : List Int), cs = #[.int .i64 P, .int .i64 R, .int .i64 C, .slice A n k] ∧ SI W A n xs ∧ n ≤ 9223372036854775807 ∧
      (-9223372036854775808 ≤ P ∧ P ≤ 9223372036854775807) ∧ (-9223372036854775808 ≤ R ∧ R ≤ 9223372036854775807) ∧ (-9223372036854775808 ≤ C ∧ C ≤ 9223372036854775807) ∧ Fits xs := by
  obtain ⟨v0, v1, v2, v3, rfl⟩ : ∃ v0 v1 v2 v3, cs = #[v0, v1, v2, v3] := by
    obtain ⟨l⟩ := cs
    match l, hsz with
    | [a, b, c, d], _ => exact ⟨a, b, c, d, rfl⟩
  obtain ⟨fuel, hf⟩ := h0
  obtain ⟨xs, n, _, _, _, hlen, hx⟩ := DataW.trod_struct Try.underlying24 hf
  have e0 := hx 0 _ rfl
  have e1 := hx 1 _ rfl
  have e2 := hx 2 _ rfl
  have e3 := hx 3 _ rfl
  obtain ⟨y0, y1, y2, y3, rfl⟩ : ∃ y0 y1 y2 y3, xs = [y0, y1, y2, y3] := by
    match xs, hlen with
    | [a, b, c, d], _ => exact ⟨a, b, c, d, rfl⟩
  have ci : Try.prog.cellsOf 3 = 1 := by kernel_rfl
  have cs : Try.prog.cellsOf 22 = 1 := by kernel_rfl
  have k0 : DataW.trod enc Try.prog W q f true n 3 [v0] = some y0 := by simpa [ci, Value.cells] using e0
  have k1 : DataW.trod enc Try.prog W q f true n 3 [v1] = some y1 := by simpa [ci, Value.cells] using e1
  have k2 : DataW.trod enc Try.prog W q f true n 3 [v2] = some y2 := by simpa [ci, Value.cells] using e2
  have k3 : DataW.trod enc Try.prog W q f true n 22 [v3] = some y3 := by simpa [cs, Value.cells] using e3
  obtain ⟨z0, hz0, _, wf0⟩ := DataW.trod_int Try.underlying3 k0
  obtain ⟨z1, hz1, _, wf1⟩ := DataW.trod_int Try.underlying3 k1
  obtain ⟨z2, hz2, _, wf2⟩ := DataW.trod_int Try.underlying3 k2
  obtain ⟨B3, m3, d3, l3, h3, s3, b3, f3⟩ : ∃ A n' c' l, v3 = .slice A n' c' ∧ SI W A n' l ∧ n' ≤ 9223372036854775807 ∧ Fits l := by
    rcases open_ints Try.underlying22 Try.underlying3 (by kernel_rfl) k3 with ⟨hcs, _⟩ | ⟨x, l, c, zs, hcs, _, hl, hm, hzs, _, hcell, hwz⟩
    · exact ⟨none, 0, 0, [], by simpa using hcs, SI.nil _ _, by omega, by intro z hz; cases hz⟩
    · exact ⟨some x, l, c, zs.take l, by simpa using hcs, SI.of_cells (by rw [hzs]; split <;> omega) hcell, by unfold maxLen at hm; omega, fun z hz => bounds_i64 (hwz z (List.mem_of_mem_take hz))⟩
  have hz0' : v0 = .int .i64 z0 := by simpa using hz0
  have hz1' : v1 = .int .i64 z1 := by simpa using hz1
  have hz2' : v2 = .int .i64 z2 := by simpa using hz2
  subst hz0' hz1' hz2' h3
  exact ⟨z0, z1, z2, B3, m3, d3, l3, rfl, s3, b3, by have := bounds_i64 wf0; omega, by have := bounds_i64 wf1; omega, by have := bounds_i64 wf2; omega, f3⟩
end Go.Proofs.Ytbkhibojbakckaa
