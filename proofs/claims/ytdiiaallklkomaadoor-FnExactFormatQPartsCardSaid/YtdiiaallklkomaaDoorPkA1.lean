/-
  Texts Words to TriE, merged. Conditions: as each says.
-/
import Derived.Test.YtdiiaallklkomaaDoorRows
import Derived.WalkKit
import Derived.WalkSpells
import Derived.WalkLawsBesides
import Derived.Deep.QuietTactic
import Derived.BigQuiet
import Derived.Handy
import Derived.Lib.Hide
import Derived.Deep.AppendLies
import Derived.Laws.OwnMore
import Derived.Maps.AppendAt
import Derived.Laws.BytesArg
import Derived.Lib.ItoaNum
import Derived.Deep.Cut
import Derived.RegionTactic
import Derived.Sort.Grow
import Derived.Test.YtdiiaallklkomaaDoorLayI
import Derived.Lib.LaidTab
import Derived.ProofKit
import Derived.OpenShut
import Derived.LaidMore
import Derived.Lay
import Derived.Stop.Joined
import Derived.Test.YtdiiaallklkomaaDoorLayS
import Derived.ChangeOld
import Derived.Laws.CopyOwn
import Derived.BigRegion
import Derived.Deep.RegionHeld3
import Derived.Deep.MidRow
import Derived.StillTailTactics
import Derived.Laws.StructEq
/-
  Words for memory: a slice of integers that reads as a list; plain lemmas. No conditions.
-/










namespace Go.Proofs.YtdiiaallklkomaaDoor
open Go.RowKit

theorem add_pt (b o k : Nat) : (Addr.mk b o none).add k = ⟨b, o + k, none⟩ := Addr.add_lit b o k

/-- The k-th number of a list (not unfolded by the walk). -/
def nth (xs : List Int) (k : Nat) : Int := xs.getD k 0
theorem nth_get {xs : List Int} {k : Nat} (h : k < xs.length) : nth xs k = xs[k] := by simp [nth, List.getD, h]
theorem nth_get? {xs : List Int} {k : Nat} (h : k < xs.length) : xs[k]? = some (nth xs k) := by simp [nth, List.getD, h]
theorem take_nth {xs : List Int} {k : Nat} (h : k < xs.length) : xs.take (k + 1) = xs.take k ++ [nth xs k] := by
  rw [List.take_succ_eq_append_getElem h, nth_get h]

/-- The slice (A, n) reads as the integers xs. -/
def SI (w : World) (A : Option Addr) (n : Nat) (xs : List Int) : Prop :=
  xs.length = n ∧ (0 < n → ∃ b o, A = some ⟨b, o, none⟩ ∧ b < w.heap.size ∧ ∀ k, k < n → w.cell? ⟨b, o + k, none⟩ = some (.int .i64 (nth xs k)))

section
variable {w w' : World} {A : Option Addr} {n : Nat} {xs : List Int}
theorem SI.nil (w : World) (A : Option Addr) : SI w A 0 [] := ⟨rfl, fun h => absurd h (by omega)⟩
theorem SI.at_ (h : SI w A n xs) (hn : 0 < n) : ∃ b o, A = some ⟨b, o, none⟩ ∧ b < w.heap.size ∧ ∀ k, k < n → w.cell? ⟨b, o + k, none⟩ = some (.int .i64 (nth xs k)) := h.2 hn
theorem SI.below {B : Nat} (h : SI w A n xs) (hb : Below B w w') (hB : w.heap.size ≤ B) : SI w' A n xs :=
  ⟨h.1, fun hn => by
    obtain ⟨b, o, e, hl, hc⟩ := h.2 hn
    have hs := hb.size
    exact ⟨b, o, e, by omega, fun k hk => (hb.cell (p := ⟨b, o + k, none⟩) (by show b < B; omega)).trans (hc k hk)⟩⟩
theorem SI.drewN (h : SI w A n xs) (k : Nat) : SI (w.drewN k) A n xs := h
theorem SI.drew (h : SI w A n xs) : SI w.drew A n xs := h
theorem SI.alloc (h : SI w A n xs) (o : Obj) : SI (w.alloc o) A n xs := h.below ((Below.refl w.heap.size w).alloc (Nat.le_refl _) o) (Nat.le_refl _)
theorem nth_take {k j : Nat} (hj : j < k) : nth (xs.take k) j = nth xs j := by simp [nth, List.getD, hj]
theorem SI.take {k : Nat} (h : SI w A n xs) (hk : k ≤ n) : SI w A k (xs.take k) := by
  refine ⟨by rw [List.length_take, h.1]; omega, fun h0 => ?_⟩
  obtain ⟨b, o, e, hb, hc⟩ := h.2 (by omega)
  exact ⟨b, o, e, hb, fun j hj => by rw [nth_take hj]; exact hc j (by omega)⟩
theorem SI.of_own {base : Nat} {c : Nat} (h : w.ownsRow base 3 1 (.slice A n c) n (xs.map (Value.int .i64))) : SI w A n xs := by
  have h1 := h.1
  simp at h1
  refine ⟨h1, fun hn => ?_⟩
  obtain ⟨g, cap, hv, _, hlt⟩ := h.form hn
  have hA : A = some ⟨g, 0, none⟩ := by injection hv
  subst hA
  refine ⟨g, 0, rfl, hlt, fun k hk => ?_⟩
  have := h.cells (g := g) rfl k (.int .i64 (nth xs k)) (by rw [List.getElem?_map, nth_get? (show k < xs.length by omega)]; rfl)
  rw [add_pt] at this
  exact this
end

/-- w' is w but for draws. -/
def Drawn (w w' : World) : Prop := ∃ m, w' = w.drewN m
theorem Drawn.refl (w : World) : Drawn w w := ⟨0, rfl⟩
theorem Drawn.drewN {w w' : World} (h : Drawn w w') (n : Nat) : Drawn w (w'.drewN n) := by
  obtain ⟨m, rfl⟩ := h; exact ⟨m + n, by rw [World.drewN_drewN]⟩
theorem Drawn.trans {w w' w'' : World} (h : Drawn w w') (h' : Drawn w' w'') : Drawn w w'' := by
  obtain ⟨m, rfl⟩ := h'; exact h.drewN m
theorem Drawn.heap {w w' : World} (h : Drawn w w') : w'.heap = w.heap := by obtain ⟨m, rfl⟩ := h; rfl
theorem Drawn.below {w w' : World} (h : Drawn w w') (B : Nat) : Below B w w' := by obtain ⟨m, rfl⟩ := h; exact ⟨rfl, rfl, rfl, Nat.le_refl _, fun _ _ => rfl⟩
theorem Drawn.si {w w' : World} (h : Drawn w w') {A : Option Addr} {n : Nat} {xs : List Int} (hs : SI w A n xs) : SI w' A n xs := by obtain ⟨m, rfl⟩ := h; exact hs
/-- Block g is just the cells cs of element type t, none frozen. -/
def Blk (w : World) (g : Nat) (t : TypeId) (cs : Array Value) : Prop := w.heap[g]? = some (.cells cs t (0, 0))
section
variable {w w' : World} {g : Nat} {t : TypeId} {cs : Array Value}
theorem Blk.lt (h : Blk w g t cs) : g < w.heap.size := by
  rcases Nat.lt_or_ge g w.heap.size with hlt | hge
  · exact hlt
  · unfold Blk at h; rw [Array.getElem?_eq_none hge] at h; cases h
theorem Blk.cell (h : Blk w g t cs) (i : Nat) : w.cell? ⟨g, i, none⟩ = cs[i]? := cell_of_row w g i cs t (0, 0) h
theorem Blk.frozen (h : Blk w g t cs) (i : Nat) : w.frozen? ⟨g, i, none⟩ = false := by
  unfold Blk at h
  simp [World.frozen?, h]
theorem Blk.new (w : World) (t : TypeId) (cs : Array Value) : Blk (w.alloc (.cells cs t)) w.heap.size t cs := heap_alloc_new w _
theorem Blk.drawn (h : Blk w g t cs) (hd : Drawn w w') : Blk w' g t cs := by obtain ⟨m, rfl⟩ := hd; exact h
theorem Blk.drewN (h : Blk w g t cs) (n : Nat) : Blk (w.drewN n) g t cs := h
theorem Blk.alloc (h : Blk w g t cs) (o : Obj) : Blk (w.alloc o) g t cs := (Below.heap_alloc w o g h.lt).trans h
theorem Blk.set_ (h : Blk w g t cs) (i : Nat) (u : Value) : Blk (w.setCell ⟨g, i, none⟩ u) g t (cs.setIfInBounds i u) := by
  unfold Blk at h ⊢
  simp [World.setCell, Array.getElem?_modify, h]
theorem Blk.far (h : Blk w g t cs) {p : Addr} (hp : g ≠ p.block) (u : Value) : Blk (w.setCell p u) g t cs := (Below.heap_setCell w p u g hp).trans h
theorem Blk.below {B : Nat} (h : Blk w g t cs) (hb : Below B w w') (hg : g < B) : Blk w' g t cs := (hb.block g hg).trans h
theorem Blk.row (h : Blk w g t cs) (cs' : Array Value) : Blk (w.setRow g cs') g t cs' := setRow_heap w g cs cs' t (0, 0) h
theorem Blk.row_far {g' : Nat} (h : Blk w g t cs) (hne : g ≠ g') (cs' : Array Value) : Blk (w.setRow g' cs') g t cs := (setRow_other w g' g cs' hne).trans h
theorem Blk.grown {row : Option Nat} (h : Blk w g t cs) (hb : w.grownBy w' row) (hg : some g ≠ row) : Blk w' g t cs := (hb.block g h.lt hg).trans h
end
theorem grownBy_setRow (w : World) (g : Nat) (cs : Array Value) : w.grownBy (w.setRow g cs) (some g) := ⟨rfl, rfl, rfl, by simp, fun k _ hk => setRow_other w g k cs (fun e => hk (by rw [e]))⟩

/-- A whole array stored into a block that is known: the world behind it is a variable. -/
theorem wpList_store_blk {P : Program} {ops : Array Oper} {rest : List Oper} {o : Oper} {a : Act} {w : World} {Q : Exit → Act → World → Prop} (hgd : o.guard = none) (ty : TypeId) (x y : Operand) (ho : o.op = .store ty x y)
    (g : Nat) (cs : Array Value) (hx : a.eval x = .pointer (some ⟨g, 0, none⟩)) (hy : a.eval y = .agg cs) (t : TypeId) (old : Array Value) (hg : Blk w g t old)
    (hi : (P.info? ty).map (·.size) = some cs.size) (hsz : old.size = cs.size) (h1 : cs.all (·.oneCell') = true)
    (hK : ∀ w', Blk w' g t cs → w.grownBy w' (some g) → wpList P ops Q rest (a.put o.dst undef) w') : wpList P ops Q (o :: rest) a w := by
  refine wpList_plain hgd fun K hK' => ?_
  unfold Oper.wp execOp
  simp only [ho, hx, hy, Instr.storeAt, Instr.sureAddr, Sem.run_bind, Sem.run_pure, Result.andThen_ok, run_storeVar_row w g t ty old cs hg hi hsz h1]
  exact hK' _ _ (hK _ (hg.row cs) (grownBy_setRow w g cs))
/-- A whole array read out of a block that is known. -/
theorem wpList_load_blk {P : Program} {ops : Array Oper} {rest : List Oper} {o : Oper} {a : Act} {w : World} {Q : Exit → Act → World → Prop} (hgd : o.guard = none) (ty : TypeId) (x : Operand) (ho : o.op = .load ty x)
    (g : Nat) (hx : a.eval x = .pointer (some ⟨g, 0, none⟩)) (t : TypeId) (cs : Array Value) (n : Nat) (e : TypeId) (hg : Blk w g t cs)
    (hu : P.underlying ty = some (.array n e)) (hi : (P.info? ty).map (·.size) = some cs.size)
    (h : wpList P ops Q rest (a.put o.dst (.agg cs)) w) : wpList P ops Q (o :: rest) a w :=
  wpList_load_row hgd ty x ho g hx t cs (0, 0) _ hg hu rfl hi h
/-- Two results, the first an array in a block that is known. -/
theorem results_blk_tmp {P : Program} {fn : Func} {p q : Tmp} {ty : TypeId} (h : fn.results = #[.cell p ty, .tmp q]) (tmps : Array Value) (w : World) (g : Nat) (t : TypeId) (cs : Array Value) (n : Nat) (e : TypeId)
    (hp : tmps.getD p undef = .pointer (some ⟨g, 0, none⟩)) (hg : Blk w g t cs) (hu : P.underlying ty = some (.array n e)) (hi : (P.info? ty).map (·.size) = some cs.size) :
    (results fn tmps).run P w = .ok (.tuple #[.agg cs, tmps.getD q undef]) w := by
  have hp' : tmps[p]?.getD undef = .pointer (some ⟨g, 0, none⟩) := by simpa using hp
  simp [results, h, hp', asAddr, run_loadVar_row w g t ty cs (0, 0) _ hg hu rfl hi]
theorem results_blk {P : Program} {fn : Func} {p : Tmp} {ty : TypeId} (h : fn.results = #[.cell p ty]) (tmps : Array Value) (w : World) (g : Nat) (t : TypeId) (cs : Array Value) (n : Nat) (e : TypeId)
    (hp : tmps.getD p undef = .pointer (some ⟨g, 0, none⟩)) (hg : Blk w g t cs) (hu : P.underlying ty = some (.array n e)) (hi : (P.info? ty).map (·.size) = some cs.size) :
    (results fn tmps).run P w = .ok (.agg cs) w :=
  results_cell_row h tmps w g t cs (0, 0) _ hp hg hu rfl hi
theorem dr2 {w : World} {m n : Nat} : ∃ k, (w.drewN m).drewN n = w.drewN k := ⟨m + n, by rw [World.drewN_drewN]⟩
theorem dr0 {w : World} : ∃ k, w = w.drewN k := ⟨0, rfl⟩
theorem below_drewN (B : Nat) (w : World) (n : Nat) : Below B w (w.drewN n) := ⟨rfl, rfl, rfl, Nat.le_refl _, fun _ _ => rfl⟩
theorem ret_eq {a b : Value} (h : a = b) : Ending.returned a = .returned b := by rw [h]
theorem ret_int {k : IntKind} {a b : Int} (h : a = b) : Ending.returned (.int k a) = .returned (.int k b) := by rw [h]
theorem ret_bool {a b : Bool} (h : a = b) : Ending.returned (.bool a) = .returned (.bool b) := by rw [h]

theorem Tryd.infoInt : (Tryd.prog.info? 3).map (fun i => (i.zero, i.size, i.bytes)) = some (some (.int .i64 0), 1, 8) := by kernel_rfl
end Go.Proofs.YtdiiaallklkomaaDoor

/-
  The helpers of the exact laws by their contracts: copying, comparing, marking, holding a slice of integers. Conditions: the length is at most 2^40.
-/

namespace Go.Proofs.YtdiiaallklkomaaDoor
open Go.RowKit

/-- What a copying loop has made after k rounds. -/
def copied (xs : List Int) (k : Nat) : List Value := (xs.take k).map (Value.int .i64) ++ List.replicate (xs.length - k) (.int .i64 0)
theorem copied_zero (xs : List Int) : copied xs 0 = List.replicate xs.length (.int .i64 0) := by simp [copied]
theorem copied_all (xs : List Int) : copied xs xs.length = xs.map (Value.int .i64) := by simp [copied]
theorem copied_len (xs : List Int) (k : Nat) (h : k ≤ xs.length) : (copied xs k).length = xs.length := by simp [copied]; omega
theorem copied_get (xs : List Int) (k : Nat) (h : k < xs.length) : (copied xs k)[k]? = some (.int .i64 0) := by
  unfold copied
  rw [List.getElem?_append_right (by simp; omega)]
  rw [List.getElem?_replicate]
  simp; omega
theorem copied_succ (xs : List Int) (k : Nat) (h : k < xs.length) : (copied xs k).set k (.int .i64 (nth xs k)) = copied xs (k + 1) := by
  unfold copied
  have hl : (List.map (Value.int .i64) (xs.take k)).length = k := by simp; omega
  rw [List.set_append_right _ _ (by omega), hl]
  have e : xs.length - k = (xs.length - (k + 1)) + 1 := by omega
  rw [e, List.replicate_succ, Nat.sub_self, List.set_cons_zero, take_nth h, List.map_append, List.append_assoc]
  rfl

set_option maxHeartbeats 400000 in
/-- toIntS: a copy of its own. -/
theorem toIntS_any (A : Option Addr) (n c : Nat) (xs : List Int) (w : World) (hs : SI w A n xs) (hn : n ≤ 1099511627776) :
    Calls Tryd.prog 12 #[.slice A n c] w fun e w' =>
      e = .returned (.slice (some ⟨w.heap.size, 0, none⟩) n n) ∧ w'.ownsRow w.heap.size 3 1 (.slice (some ⟨w.heap.size, 0, none⟩) n n) n (xs.map (Value.int .i64)) ∧ Below w.heap.size w w' := by
  obtain ⟨i0, hi, hz0, hz1, hz2⟩ := info_parts Tryd.infoInt
  have hl := hs.1
  obtain ⟨B, hB⟩ : ∃ B, B = w.heap.size := ⟨_, rfl⟩
  have HB : Hid (B = w.heap.size) := hB
  have hBle : B ≤ w.heap.size := by omega
  go_enter Tryd.func12, Tryd.ntmps12
  go_wp2_with (at_make; refine wpList_make_full _ rfl (.tmp 6) (.tmp 6) 24 rfl w.heap.size 3 i0 (.int .i64 0) 1 Tryd.underlying24 hi hz0 hz1 .i64 .i64 (n : Int) (n : Int) n rfl rfl rfl rfl (by rw [hz2]; omega) (by unfold maxLen; omega) (Nat.le_refl _) ?_; intro w1 hown hgrow)
  rw [← hB] at hown ⊢
  go_loopw [4] (fun i wr => ∃ k : Nat, k ≤ n ∧ i = .int .i64 k ∧ wr.ownsRow B 3 1 (.slice (some ⟨B, 0, none⟩) n n) n (copied xs k) ∧ Below B w wr)
    (fun i _ => n - (intOf i).toNat)
  case atStart =>
    refine ⟨0, Nat.zero_le _, rfl, ?_, ?_⟩
    · rw [copied_zero, hl]
      simpa [toList_madeCells_one, Value.cells] using hown
    · exact ((Below.refl _ _).grown hgrow (by omega) (by intro k hk; cases hk))
  case round =>
    obtain ⟨k, hk, rfl, hown, hbel⟩ := hrel
    by_cases hlt : k < n
    · obtain ⟨b, o, rfl, hb, hc⟩ := hs.at_ (by omega)
      have hc1 : wr.cell? ⟨b, o + k, none⟩ = some (.int .i64 (nth xs k)) := (hbel.cell (p := ⟨b, o + k, none⟩) (by show b < B; omega)).trans (hc k hlt)
      have hc2 : wr.cell? ⟨B, k, none⟩ = some (.int .i64 0) := (hown.cellAt k (by omega)).trans (copied_get xs k (by omega))
      have hf2 : wr.frozen? ⟨B, k, none⟩ = false := hown.frozenAt k
      have hst := (hown.stored k (.int .i64 (nth xs k))).1
      rw [copied_succ xs k (by omega)] at hst
      have HS := Lib.hid hst
      have HBel := Lib.hid hbel
      clear hst hown hbel hc hB
      go_wp2
      go_roundw
      case rel => exact ⟨k + 1, by omega, by go_num, HS.out, HBel.out.setCell (Nat.le_refl _) _⟩
      case measure => simp [intOf]; omega
    · have hkn : k = n := by omega
      subst hkn
      go_wp2
      go_ret
      obtain rfl := HB.out
      refine ⟨rfl, ?_, ?_⟩
      · rw [← hl, copied_all] at hown; rw [← hl]; exact hown
      · exact hbel
/-- Equality of two lists as a Bool (not unfolded by the walk). -/
def eqL (xs ys : List Int) : Bool := decide (xs = ys)
theorem eqL_self (xs : List Int) : eqL xs xs = true := by simp [eqL]
theorem eqL_len {xs ys : List Int} (h : xs.length ≠ ys.length) : eqL xs ys = false := by
  simp only [eqL, decide_eq_false_iff_not]; intro e; exact h (by rw [e])
theorem eqL_all {xs ys : List Int} (hl : xs.length = ys.length) (h : ∀ j, j < xs.length → nth xs j = nth ys j) : eqL xs ys = true := by
  simp only [eqL, decide_eq_true_eq]
  apply List.ext_getElem hl
  intro j h1 h2
  have := h j h1
  rwa [nth_get h1, nth_get h2] at this
theorem eqL_ne {xs ys : List Int} {k : Nat} (h : nth xs k ≠ nth ys k) : eqL xs ys = false := by
  simp only [eqL, decide_eq_false_iff_not]; intro e; exact h (by rw [e])

set_option maxHeartbeats 400000 in
/-- eqIntS: are the two lists one. -/
theorem eqIntS_any (A A' : Option Addr) (n c n' c' : Nat) (xs ys : List Int) (w : World) (hs : SI w A n xs) (hs' : SI w A' n' ys) (hn : n ≤ 1099511627776) (hn' : n' ≤ 1099511627776) :
    Calls Tryd.prog 14 #[.slice A n c, .slice A' n' c'] w fun e w' => e = .returned (.bool (eqL xs ys)) ∧ Drawn w w' := by
  have hl := hs.1
  have hl' := hs'.1
  by_cases hne : n = n'
  · subst hne
    go_enter Tryd.func14, Tryd.ntmps14
    go_wp2
    go_loopw [5] (fun i wr => ∃ k : Nat, k ≤ n ∧ i = .int .i64 k ∧ Drawn w wr ∧ ∀ j, j < k → nth xs j = nth ys j)
      (fun i _ => n - (intOf i).toNat)
    case atStart => exact ⟨0, Nat.zero_le _, rfl, Drawn.refl _, fun j hj => absurd hj (by omega)⟩
    case round =>
      obtain ⟨k, hk, rfl, hD, hall⟩ := hrel
      have HA := Lib.hid hall
      have hs := hD.si hs
      have hs' := hD.si hs'
      have HD := Lib.hid hD
      clear hall hD
      by_cases hlt : k < n
      · obtain ⟨b, o, rfl, hb, hc⟩ := hs.at_ (by omega)
        obtain ⟨b', o', rfl, hb', hc'⟩ := hs'.at_ (by omega)
        have hc1 := hc k hlt
        have hc1' := hc' k hlt
        clear hc hc' hs hs' hl hl'
        by_cases heq : nth xs k = nth ys k
        · have HE := Lib.hid heq
          rw [← heq] at hc1'
          clear heq
          obtain ⟨x, hx⟩ : ∃ x, x = nth xs k := ⟨_, rfl⟩
          rw [← hx] at hc1 hc1'
          clear hx
          have hlI : (k : Int) < (n : Int) := by omega
          go_wp2_with fail
          go_quiet (fail)
          go_wp2
          go_roundw
          case rel => exact ⟨k + 1, by omega, by go_num, HD.out.drewN _, fun j hj => by
            rcases Nat.lt_or_ge j k with h | h
            · exact HA.out j h
            · obtain rfl : j = k := by omega
              exact HE.out⟩
          case measure => simp [intOf]; omega
        · have HE := Lib.hid heq
          obtain ⟨x, hx⟩ : ∃ x, x = nth xs k := ⟨_, rfl⟩
          obtain ⟨y, hy⟩ : ∃ y, y = nth ys k := ⟨_, rfl⟩
          rw [← hx] at hc1 heq
          rw [← hy] at hc1' heq
          clear hx hy
          have hlI : (k : Int) < (n : Int) := by omega
          have hb : (x != y) = true := by simpa using heq
          clear heq
          go_wp2_with fail
          go_quiet (fail)
          go_wp2
          go_ret
          exact ⟨ret_bool (eqL_ne HE.out).symm, HD.out.drewN _⟩
      · have hkn : k = n := by omega
        subst hkn
        go_wp2
        go_ret
        exact ⟨ret_bool (eqL_all (by omega) (by rw [hl]; exact HA.out)).symm, HD.out⟩
  · have hne' : ¬ (n : Int) = (n' : Int) := by omega
    go_enter Tryd.func14, Tryd.ntmps14
    go_wp2
    go_ret
    exact ⟨ret_bool (eqL_len (by omega)).symm, Drawn.refl _⟩

/-- The numbers j, j+1, .. that marking writes: k of them, over the first k places. -/
def marked (xs : List Int) (q : Int) (k : Nat) : List Value := (List.range k).map (fun (j : Nat) => Value.int .i64 (q + j)) ++ (xs.drop k).map (Value.int .i64)
def marks (n : Nat) (q : Int) : List Int := (List.range n).map (fun (j : Nat) => q + j)
theorem marked_zero (xs : List Int) (q : Int) : marked xs q 0 = xs.map (Value.int .i64) := by simp [marked]
theorem marked_all (xs : List Int) (q : Int) : marked xs q xs.length = (marks xs.length q).map (Value.int .i64) := by simp [marked, marks]
theorem marked_get (xs : List Int) (q : Int) (k : Nat) (h : k < xs.length) : (marked xs q k)[k]? = some (.int .i64 (nth xs k)) := by
  unfold marked
  rw [List.getElem?_append_right (by simp)]
  simp [nth_get h, h]
theorem marked_succ (xs : List Int) (q : Int) (k : Nat) (h : k < xs.length) : (marked xs q k).set k (.int .i64 (q + k)) = marked xs q (k + 1) := by
  unfold marked
  rw [List.set_append_right _ _ (by simp)]
  rw [List.drop_eq_getElem_cons h, List.range_succ]
  simp only [List.length_map, List.length_range, Nat.sub_self, List.map_cons, List.set_cons_zero, List.map_append, List.append_assoc, List.map_nil]
  rfl
theorem marks_len (n : Nat) (q : Int) : (marks n q).length = n := by simp [marks]
theorem marks_nth (n : Nat) (q : Int) (k : Nat) (h : k < n) : nth (marks n q) k = q + k := by simp [nth, marks, List.getD, h]

end Go.Proofs.YtdiiaallklkomaaDoor

/-
  Slices of integers that a call owns: words and laws (appending one number, copying a whole slice, marking). No conditions beyond lengths below 2^40.
-/


namespace Go.Proofs.YtdiiaallklkomaaDoor
open Go.RowKit

/-- The slice (A, n, c) holds the integers xs in a block of its own between lo and hi (or is nil). -/
def Own (w : World) (lo hi : Nat) (A : Option Addr) (n c : Nat) (xs : List Int) : Prop :=
  w.ownsRow lo 3 1 (.slice A n c) n (xs.map (Value.int .i64)) ∧ ∀ k, (Value.slice A n c).ownBlock = some k → k < hi

section
variable {w w' : World} {lo hi n c : Nat} {A : Option Addr} {xs : List Int}
theorem Own.len (h : Own w lo hi A n c xs) : xs.length = n := by simpa using h.1.1
theorem Own.si (h : Own w lo hi A n c xs) : SI w A n xs := SI.of_own h.1
theorem Own.cap (h : Own w lo hi A n c xs) : n ≤ c := by
  rcases h.1.2 with ⟨e, h0⟩ | ⟨g, cap, cur, e, _, _, hc, _⟩
  · omega
  · injection e with _ _ e3; omega
theorem Own.nil (w : World) (lo hi : Nat) : Own w lo hi none 0 0 [] := ⟨World.ownsRow_nil _ _ _ _, fun k hk => by simp [Value.ownBlock] at hk⟩
theorem Own.of (h : w.ownsRow lo 3 1 (.slice A n c) n (xs.map (Value.int .i64))) : Own w lo w.heap.size A n c xs := ⟨h, fun k hk => (h.lt k hk).2⟩
theorem Own.lt (h : Own w lo hi A n c xs) : ∀ k, (Value.slice A n c).ownBlock = some k → lo ≤ k ∧ k < hi := fun k hk => ⟨(h.1.lt k hk).1, h.2 k hk⟩
theorem Own.grown {row : Option Nat} (h : Own w lo hi A n c xs) (hg : w.grownBy w' row) (hr : ∀ g, row = some g → g < lo ∨ hi ≤ g) : Own w' lo hi A n c xs := by
  refine ⟨h.1.kept hg ?_, h.2⟩
  cases hb : (Value.slice A n c).ownBlock with
  | none => exact .inl rfl
  | some k =>
    refine .inr fun e => ?_
    have := h.lt k hb
    have := hr k e.symm
    omega
theorem Own.below {B : Nat} (h : Own w lo hi A n c xs) (hb : Below B w w') (hB : hi ≤ B) : Own w' lo hi A n c xs := by
  refine ⟨⟨h.1.1, ?_⟩, h.2⟩
  rcases h.1.2 with hn | ⟨g, cap, cur, e, hl, hg, rest⟩
  · exact .inl hn
  · have hlt := h.2 g (by rw [e]; rfl)
    exact .inr ⟨g, cap, cur, e, hl, (hb.block g (by omega)).trans hg, rest⟩
theorem Own.drawn (h : Own w lo hi A n c xs) (hd : Drawn w w') : Own w' lo hi A n c xs := h.below (hd.below hi) (Nat.le_refl _)
theorem Own.wide {lo' hi' : Nat} (h : Own w lo hi A n c xs) (h1 : lo' ≤ lo) (h2 : hi ≤ hi') : Own w lo' hi' A n c xs := by
  refine ⟨⟨h.1.1, ?_⟩, fun k hk => Nat.lt_of_lt_of_le (h.2 k hk) h2⟩
  rcases h.1.2 with hn | ⟨g, cap, cur, e, hl, rest⟩
  · exact .inl hn
  · exact .inr ⟨g, cap, cur, e, Nat.le_trans h1 hl, rest⟩
theorem Own.cellAt {g k : Nat} (h : Own w lo hi (some ⟨g, 0, none⟩) n c xs) (hk : k < n) : w.cell? ⟨g, k, none⟩ = some (.int .i64 (nth xs k)) := by
  have hl := h.len
  rw [h.1.cellAt k (by omega), List.getElem?_map, nth_get? (by omega)]; rfl
theorem Own.frozenAt {g : Nat} (h : Own w lo hi (some ⟨g, 0, none⟩) n c xs) (k : Nat) : w.frozen? ⟨g, k, none⟩ = false := h.1.frozenAt k
theorem Own.place (h : Own w lo hi A n c xs) (hn : 0 < n) : ∃ g, A = some ⟨g, 0, none⟩ ∧ lo ≤ g ∧ g < hi := by
  obtain ⟨g, cap, e, h1, h2⟩ := h.1.form hn
  have hA : A = some ⟨g, 0, none⟩ := by injection e
  subst hA
  exact ⟨g, rfl, h1, h.2 g rfl⟩
theorem Own.set_ {g k : Nat} (h : Own w lo hi (some ⟨g, 0, none⟩) n c xs) (x : Int) :
    Own (w.setCell ⟨g, k, none⟩ (.int .i64 x)) lo hi (some ⟨g, 0, none⟩) n c (xs.set k x) ∧ w.grownBy (w.setCell ⟨g, k, none⟩ (.int .i64 x)) (some g) := by
  obtain ⟨h1, h2⟩ := h.1.stored k (.int .i64 x)
  refine ⟨⟨?_, h.2⟩, h2⟩
  rw [List.map_set]
  exact h1
end
theorem Own.empty (w : World) : Own (w.alloc (.cells #[] 3)) w.heap.size (w.heap.size + 1) (some ⟨w.heap.size, 0, none⟩) 0 0 [] :=
  ⟨World.ownsRow_lit w #[] 0 (Nat.le_refl _) (Nat.zero_le _) rfl, fun k hk => by simp [Value.ownBlock] at hk; omega⟩
theorem Below.alloc_self (w : World) (o : Obj) : Below w.heap.size w (w.alloc o) := (Below.refl _ _).alloc (Nat.le_refl _) _
theorem _root_.Go.RowKit.Below.drawnN {B : Nat} {a w : World} (h : Below B a w) (n : Nat) : Below B a (w.drewN n) := h.trans ⟨rfl, rfl, rfl, Nat.le_refl _, fun _ _ => rfl⟩
theorem grow_below {B : Nat} {w w' : World} {row : Option Nat} (hg : w.grownBy w' row) (hB : B ≤ w.heap.size) (hr : ∀ k, row = some k → B ≤ k) : Below B w w' := (Below.refl B w).grown hg hB hr

/-- What a call that makes a new slice hands back. -/
def Fresh (w w' : World) (e : Ending) (ys : List Int) : Prop :=
  ∃ A n c, e = .returned (.slice A n c) ∧ Own w' w.heap.size w'.heap.size A n c ys ∧ Below w.heap.size w w'

theorem Own.apart {w w' : World} {lo hi n c lo' hi' n' c' : Nat} {A A' : Option Addr} {xs xs' : List Int} (ho : Own w lo hi A n c xs) (hx : Own w lo' hi' A' n' c' xs')
    (hg : w.grownBy w' (Value.slice A' n' c').ownBlock) (h : hi ≤ lo' ∨ hi' ≤ lo) : Own w' lo hi A n c xs :=
  ho.grown hg fun g e => by have := hx.lt g e; omega
theorem Own.mark_below {w w' : World} {B lo hi n c : Nat} {A : Option Addr} {xs : List Int} (hx : Own w lo hi A n c xs) (hg : w.grownBy w' (Value.slice A n c).ownBlock) (hB : B ≤ w.heap.size) (hl : B ≤ lo) : Below B w w' :=
  grow_below hg hB fun k e => by have := hx.lt k e; omega

theorem toIntS_fr (A : Option Addr) (n c : Nat) (xs : List Int) (w : World) (hs : SI w A n xs) (hn : n ≤ 1099511627776) :
    Calls Tryd.prog 12 #[.slice A n c] w fun e w' => Fresh w w' e xs :=
  (toIntS_any A n c xs w hs hn).mono fun _ _ ⟨he, ho, hb⟩ => ⟨_, _, _, he, Own.of ho, hb⟩

/-- 'make([]int, n)'. -/
theorem wpList_make_zero {ops : Array Oper} {rest : List Oper} {o : Oper} {a : Act} {w : World} {Q : Exit → Act → World → Prop} (hgd : o.guard = none) (l c : Operand) (ho : o.op = .makeSlice 24 l c)
    (n : Nat) (hl : a.eval l = .int .i64 n) (hc : a.eval c = .int .i64 n) (hn : n ≤ 1099511627776)
    (hK : ∀ w', Own w' w.heap.size w'.heap.size (some ⟨w.heap.size, 0, none⟩) n n (List.replicate n 0) → Below w.heap.size w w' → wpList Tryd.prog ops Q rest (a.put o.dst (.slice (some ⟨w.heap.size, 0, none⟩) n n)) w') :
    wpList Tryd.prog ops Q (o :: rest) a w := by
  obtain ⟨i0, hi, hz0, hz1, hz2⟩ := info_parts Tryd.infoInt
  refine wpList_make_full w hgd l c 24 ho w.heap.size 3 i0 (.int .i64 0) 1 Tryd.underlying24 hi hz0 hz1 .i64 .i64 n n n hl hc rfl rfl (by rw [hz2]; omega) (by unfold maxLen; omega) (Nat.le_refl _) ?_
  intro w1 ho1 hg1
  have e : (madeCells (Value.int .i64 0).cells (n * 1)).toList = (List.replicate n (0 : Int)).map (Value.int .i64) := by
    rw [show (Value.int .i64 0).cells = #[Value.int .i64 0] from rfl, Nat.mul_one, toList_madeCells_one]; simp
  rw [e] at ho1
  exact hK w1 (Own.of ho1) (grow_below hg1 (Nat.le_refl _) (by intro k hk; cases hk))

/-- 'out = append(out, x)' on a slice of the call's own. -/
theorem wpList_append1 {ops : Array Oper} {rest : List Oper} {o : Oper} {a : Act} {w : World} {Q : Exit → Act → World → Prop} (hgd : o.guard = none) (s x : Operand)
    (ho : o.op = .call { callee := .builtin .append, args := #[s, x], argTypes := #[24, 24] })
    (lo : Nat) (A : Option Addr) (n c : Nat) (xs : List Int) (v : Int) (hs : a.eval s = .slice A n c) (hx : a.eval x = .slice (some ⟨w.heap.size, 0, none⟩) 1 1)
    (hown : Own w lo w.heap.size A n c xs) (hlo : lo ≤ w.heap.size) (hn : n ≤ 1099511627776)
    (hK : ∀ A' c' w', Own w' lo w'.heap.size A' (n + 1) c' (xs ++ [v]) → w.grownBy w' (Value.slice A n c).ownBlock → Below lo w w' → wpList Tryd.prog ops Q rest (a.put o.dst (.slice A' (n + 1) c')) w') :
    wpList Tryd.prog ops Q (o :: rest) a (w.alloc (.cells #[.int .i64 v] 3)) := by
  obtain ⟨i0, hi, hz0, hz1, hz2⟩ := info_parts Tryd.infoInt
  refine wpList_append_own _ hgd s x 24 ho lo 3 i0 (.int .i64 0) 1 8 Tryd.underlying24 hi hz0 hz1 hz2 rfl (by decide) _ _ _ hs (hown.1.alloc _) ⟨w.heap.size, 0, none⟩ 1 1 [.int .i64 v] hx rfl ?_ ?_ (by unfold maxLen; omega) (by omega) (by simp; omega) ?_
  · intro j u hj
    match j, hj with
    | 0, hj =>
      simp at hj
      subst hj
      rw [add_pt]
      exact (Blk.new w 3 #[.int .i64 v]).cell 0
  · intro u hu
    simp at hu
    subst hu
    rfl
  · intro v' w1 ho1 hg1 _
    have e1 : List.map (Value.int .i64) xs ++ [Value.int .i64 v] = (xs ++ [v]).map (Value.int .i64) := by simp
    rw [e1] at ho1
    obtain ⟨g, cap, rfl, _, _⟩ := ho1.form (by omega)
    have hg2 : w.grownBy w1 (Value.slice A n c).ownBlock := (World.grownBy_alloc w _ _).trans hg1
    exact hK _ _ w1 (Own.of ho1) hg2 (grow_below hg2 hlo (fun k hk => (hown.1.lt k hk).1))

set_option maxRecDepth 100000 in
/-- 'append([]int{}, l...)' and the like: a whole slice appended to an empty one that was just made. -/
theorem wpList_append_all {ops : Array Oper} {rest : List Oper} {o : Oper} {a : Act} {w : World} {Q : Exit → Act → World → Prop} (hgd : o.guard = none) (s x : Operand)
    (ho : o.op = .call { callee := .builtin .append, args := #[s, x], argTypes := #[24, 24] })
    (lo : Nat) (A : Option Addr) (n c : Nat) (xs : List Int) (A2 : Option Addr) (m c2 : Nat) (ys : List Int) (hs : a.eval s = .slice A n c) (hx : a.eval x = .slice A2 m c2)
    (hown : Own w lo w.heap.size A n c xs) (hsi : SI w A2 m ys) (hlo : lo ≤ w.heap.size) (hn : n ≤ 1099511627776) (hm : m ≤ 1099511627776)
    (hK : ∀ A' c' w', Own w' lo w'.heap.size A' (n + m) c' (xs ++ ys) → w.grownBy w' (Value.slice A n c).ownBlock → Below lo w w' → wpList Tryd.prog ops Q rest (a.put o.dst (.slice A' (n + m) c')) w') :
    wpList Tryd.prog ops Q (o :: rest) a w := by
  obtain ⟨i0, hi, hz0, hz1, hz2⟩ := info_parts Tryd.infoInt
  by_cases h0 : 0 < m
  · obtain ⟨b, off, rfl, hb, hc⟩ := hsi.2 h0
    refine wpList_append_own _ hgd s x 24 ho lo 3 i0 (.int .i64 0) 1 8 Tryd.underlying24 hi hz0 hz1 hz2 rfl (by decide) _ _ _ hs hown.1 ⟨b, off, none⟩ m c2 (ys.map (Value.int .i64)) hx (by simp [hsi.1]) ?_ (ints_oneCell _ _) (by unfold maxLen; omega) (by omega) hlo ?_
    · intro j u hj
      have hjl : j < ys.length := by
        rcases Nat.lt_or_ge j ys.length with h | h
        · exact h
        · rw [List.getElem?_eq_none (by simpa using h)] at hj; cases hj
      rw [List.getElem?_map, nth_get? hjl] at hj
      rw [add_pt, hc j (by have := hsi.1; omega)]
      exact hj
    · intro v' w1 ho1 hg1 _
      rw [← List.map_append] at ho1
      obtain ⟨g, cap, rfl, _, _⟩ := ho1.form (by omega)
      exact hK _ _ w1 (Own.of ho1) hg1 (grow_below hg1 hlo (fun k hk => (hown.1.lt k hk).1))
  · have hm0 : m = 0 := by omega
    subst hm0
    have hy : ys = [] := List.eq_nil_of_length_eq_zero hsi.1
    subst hy
    have hk0 := hK A c w (by simpa using hown) (World.grownBy.refl _ _) (Below.refl _ _)
    refine wpList_plain hgd fun K hK' => ?_
    have hrun : (Builtin.append_ #[24, 24] o.type #[.slice A n c, .slice A2 0 c2]).run Tryd.prog w = .ok (.slice A n c) w := by
      have hg := hown.1
      have hl0 : ∀ v, (loadCells v 0).run Tryd.prog w = .ok #[] w := fun v => by simp [loadCells, loadCellsFrom]
      rcases hg.2 with ⟨e, h0⟩ | ⟨g, cap, cur, e, _, hgg, hnc, _⟩
      · injection e with e1 e2 e3
        subst e1; subst e3; subst h0
        cases A2 <;> simp [Builtin.append_, run_underlying Tryd.underlying24, sizeOf, typeInfo, hi, Builtin.lenOf, Builtin.firstCells, hl0]
      · injection e with e1 e2 e3
        subst e1; subst e3
        cases A2 <;> simp [Builtin.append_, run_underlying Tryd.underlying24, sizeOf, typeInfo, hi, Builtin.lenOf, Builtin.firstCells, hnc, storeCells, hl0]
    unfold Oper.wp
    simp [execOp, ho, resolve, invoke, builtin, hs, hx, hrun, Result.andThen]
    exact hK' _ _ (by simpa using hk0)
end Go.Proofs.YtdiiaallklkomaaDoor

/-
  Numbers as texts: the document's FormatInt is the library's numeral. Conditions: numbers that an int holds.
-/





namespace Go.Proofs.YtdiiaallklkomaaDoor
open Go.RowKit

theorem Tryd.infoByteI : (Tryd.prog.info? 5).map (fun i => (i.zero, i.size, i.bytes)) = some (some (.int .u8 0), 1, 1) := by kernel_rfl
theorem ret_strI {a b : ByteArray} (h : a = b) : Ending.returned (.string a) = .returned (.string b) := by rw [h]
/-- 'out = append(out, b)' on a slice of bytes of the call's own. -/
theorem wpList_append1i {ops : Array Oper} {rest : List Oper} {o : Oper} {a : Act} {w : World} {Q : Exit → Act → World → Prop} (hgd : o.guard = none) (s x : Operand)
    (ho : o.op = .call { callee := .builtin .append, args := #[s, x], argTypes := #[58, 58] })
    (lo : Nat) (A : Option Addr) (n c : Nat) (xs : List Int) (v : Int) (hs : a.eval s = .slice A n c) (hx : a.eval x = .slice (some ⟨w.heap.size, 0, none⟩) 1 1)
    (hown : w.ownsRow lo 5 1 (.slice A n c) n (xs.map (Value.int .u8))) (hlo : lo ≤ w.heap.size) (hn : n ≤ 1099511627776)
    (hK : ∀ g c' w', w'.ownsRow lo 5 1 (.slice (some ⟨g, 0, none⟩) (n + 1) c') (n + 1) ((xs ++ [v]).map (Value.int .u8)) → Below lo w w' → w.grownBy w' (Value.slice A n c).ownBlock → wpList Tryd.prog ops Q rest (a.put o.dst (.slice (some ⟨g, 0, none⟩) (n + 1) c')) w') :
    wpList Tryd.prog ops Q (o :: rest) a (w.alloc (.cells #[.int .u8 v] 5)) := by
  obtain ⟨i0, hi, hz0, hz1, hz2⟩ := info_parts Tryd.infoByteI
  refine wpList_append_own _ hgd s x 58 ho lo 5 i0 (.int .u8 0) 1 1 Tryd.underlying58 hi hz0 hz1 hz2 rfl (by decide) _ _ _ hs (hown.alloc _) ⟨w.heap.size, 0, none⟩ 1 1 [.int .u8 v] hx rfl ?_ ?_ (by unfold maxLen; omega) (by omega) (by simp; omega) ?_
  · intro j u hj
    match j, hj with
    | 0, hj =>
      simp at hj
      subst hj
      rw [add_pt]
      exact (Blk.new w 5 #[.int .u8 v]).cell 0
  · intro u hu
    simp at hu
    subst hu
    rfl
  · intro v' w1 ho1 hg1 _
    have e1 : List.map (Value.int .u8) xs ++ [Value.int .u8 v] = (xs ++ [v]).map (Value.int .u8) := by simp
    rw [e1] at ho1
    obtain ⟨g, cap, rfl, _, _⟩ := ho1.form (by omega)
    have hg := (World.grownBy_alloc w _ _).trans hg1
    exact hK _ _ w1 ho1 (grow_below hg hlo (fun k hk => (hown.lt k hk).1)) hg
/-- The digits of a number, the last one first, as bytes. -/
def dgs (u : Nat) : List Int := if h : u < 10 then [((48 + u : Nat) : Int)] else ((48 + u % 10 : Nat) : Int) :: dgs (u / 10)
termination_by u
theorem dgs_small {u : Nat} (h : u < 10) : dgs u = [((48 + u : Nat) : Int)] := by rw [dgs, dif_pos h]
theorem dgs_big {u : Nat} (h : ¬ u < 10) : dgs u = ((48 + u % 10 : Nat) : Int) :: dgs (u / 10) := by rw [dgs, dif_neg h]
/-- What is still to come. -/
def dgz (u : Nat) : List Int := if u = 0 then [] else dgs u
theorem dgs_step (u : Nat) : dgs u = ((48 + u % 10 : Nat) : Int) :: dgz (u / 10) := by
  unfold dgz
  by_cases h : u < 10
  · rw [dgs_small h, if_pos (Nat.div_eq_of_lt h), Nat.mod_eq_of_lt h]
  · rw [dgs_big h, if_neg (by omega)]
theorem dgs_len : ∀ (k u : Nat), u < 10 ^ (k + 1) → (dgs u).length ≤ k + 1
  | 0, u, h => by rw [dgs_small (by omega)]; simp
  | k + 1, u, h => by
    by_cases h10 : u < 10
    · rw [dgs_small h10]; simp
    · rw [dgs_big h10]
      have := dgs_len k (u / 10) (by rw [Nat.pow_succ] at h; omega)
      simp only [List.length_cons]
      omega
theorem dgs_byte : ∀ (k u : Nat), u < 10 ^ (k + 1) → ∀ x ∈ dgs u, 48 ≤ x ∧ x ≤ 57
  | 0, u, h, x, hx => by rw [dgs_small (by omega)] at hx; simp at hx; omega
  | k + 1, u, h, x, hx => by
    by_cases h10 : u < 10
    · rw [dgs_small h10] at hx; simp at hx; omega
    · rw [dgs_big h10] at hx
      rcases List.mem_cons.1 hx with rfl | hx
      · omega
      · exact dgs_byte k (u / 10) (by rw [Nat.pow_succ] at h; omega) x hx
theorem dgs_dec : ∀ (k u : Nat), u < 10 ^ (k + 1) → (dgs u).reverse.map (fun n => UInt8.ofNat n.toNat) = Lib.decDigits u
  | 0, u, h => by rw [dgs_small (by omega), Lib.decDigits_one (by omega)]; simp only [List.reverse_cons, List.reverse_nil, List.nil_append, List.map_cons, List.map_nil, Int.toNat_natCast]
  | k + 1, u, h => by
    rw [Lib.decDigits]
    by_cases h10 : u < 10
    · rw [dgs_small h10, dif_pos h10]; simp only [List.reverse_cons, List.reverse_nil, List.nil_append, List.map_cons, List.map_nil, Int.toNat_natCast]
    · rw [dgs_big h10, dif_neg h10, List.reverse_cons, List.map_append, dgs_dec k (u / 10) (by rw [Nat.pow_succ] at h; omega)]
      simp only [List.map_cons, List.map_nil, Int.toNat_natCast]
/-- A number's text as bytes. -/
def txtL (n : Int) : List Int := (if n < 0 then [45] else []) ++ (dgs n.natAbs).reverse
theorem txtL_itoa {n : Int} (h : n.natAbs < 10 ^ 20) : strOfNums (txtL n) = ⟨(Lib.itoa n).toArray⟩ := by
  unfold strOfNums txtL Lib.itoa
  rw [List.map_append, dgs_dec 19 _ h]
  by_cases hn : n < 0
  · rw [if_pos hn, if_pos hn]; rfl
  · rw [if_neg hn, if_neg hn, show n.toNat = n.natAbs by omega]; rfl
def slenV : Value → Nat
  | .slice _ n _ => n
  | _ => 0
theorem natAbs_tdiv10 (k : Int) : (k.tdiv 10).natAbs = k.natAbs / 10 := by
  rw [Int.natAbs_tdiv]; rfl
theorem natAbs_tmod10 (k : Int) : (k.tmod 10).natAbs = k.natAbs % 10 := by
  rw [Int.natAbs_tmod]; rfl

set_option maxRecDepth 100000 in
set_option maxHeartbeats 4000000 in
theorem specFmt_any (n : Int) (w : World) (hn0 : -9223372036854775808 ≤ n) (hn1 : n ≤ 9223372036854775807) :
    Calls Tryd.prog 9 #[.int .i64 n] w fun e w' => e = .returned (.string (strOfNums (txtL n))) ∧ Below w.heap.size w w' := by
  have HN := Lib.hid (And.intro hn0 hn1)
  have HLN : Hid ((dgs n.natAbs).length ≤ 20) := Lib.hid (dgs_len 19 _ (by omega))
  have HBY := Lib.hid (dgs_byte 19 n.natAbs (by omega))
  obtain ⟨u, hu⟩ : ∃ u, u = n.natAbs := ⟨_, rfl⟩
  have HU := Lib.hid hu
  rw [← hu] at HLN HBY
  clear hu
  go_enter Tryd.func9, Tryd.ntmps9
  go_wp2
  have ho0 : (w.alloc (.cells #[] 5)).ownsRow w.heap.size 5 1 (.slice (some ⟨w.heap.size, 0, none⟩) 0 0) 0 (([] : List Int).map (Value.int .u8)) :=
    World.ownsRow_lit w #[] 0 (Nat.le_refl _) (Nat.zero_le _) rfl
  have HO0 := Lib.hid ho0
  clear ho0
  obtain ⟨w0, hw0⟩ : ∃ w0, w0 = w := ⟨_, rfl⟩
  go_loopw [3, 4] (fun dv kv wr => ∃ (g m c : Nat) (k : Int) (L : List Int), dv = .slice (some ⟨g, 0, none⟩) m c ∧ kv = .int .i64 k ∧ (-9223372036854775808 ≤ k ∧ k ≤ 9223372036854775807) ∧ wr.ownsRow w.heap.size 5 1 (.slice (some ⟨g, 0, none⟩) m c) m (L.map (Value.int .u8)) ∧ L.length = m ∧ Below w.heap.size w wr ∧ ((m = 0 ∧ k = n) ∨ (0 < m ∧ L ++ dgz k.natAbs = dgs u)))
    (fun dv kv _ => (intOf kv).natAbs + (if slenV dv = 0 then 1 else 0))
  case atStart => exact ⟨_, 0, 0, n, [], rfl, rfl, HN.out, HO0.out, rfl, Below.alloc_self _ _, .inl ⟨rfl, rfl⟩⟩
  case round =>
    obtain ⟨g, m, c, k, L, rfl, rfl, hk, hown, hlen, hbel, hst⟩ := hrel
    have HO := Lib.hid hown
    have HB := Lib.hid hbel
    have HL := Lib.hid hlen
    have HK := Lib.hid hk
    have HST := Lib.hid hst
    clear hown hbel hlen hk hst HO0
    by_cases hk0 : k = 0
    · by_cases hm0 : m = 0
      · subst hk0 hm0
        obtain rfl : L = [] := List.eq_nil_of_length_eq_zero HL.out
        have HU0 : Hid (dgs u = [48]) := Lib.hid (by
          have hn : n = 0 := by rcases HST.out with ⟨_, h⟩ | ⟨h, _⟩; exact h.symm; omega
          rw [HU.out, hn]
          exact dgs_small (by decide))
        go_wp2_with (at_builtin; refine wpList_append1i rfl (.tmp 23) (.tmp 27) rfl w.heap.size (some ⟨g, 0, none⟩) 0 c [] 48 rfl rfl HO.out HB.out.size (by omega) ?_; intro g' c2 w3 ho3 hb3 _)
        go_roundw
        case rel => exact ⟨g', 1, c2, 0, [48], rfl, rfl, by omega, ho3, rfl, HB.out.trans hb3, .inr ⟨Nat.succ_pos _, by rw [HU0.out]; rfl⟩⟩
        case measure => simp [intOf, slenV]
      · subst hk0
        have HLD : Hid (L = dgs u) := Lib.hid (by
          rcases HST.out with ⟨h1, _⟩ | ⟨_, h2⟩
          · omega
          · have e : dgz (0 : Int).natAbs = [] := rfl
            rw [e, List.append_nil] at h2
            exact h2)
        have HM : Hid (m ≤ 20) := Lib.hid (by have h1 := HLN.out; rw [← HLD.out, HL.out] at h1; exact h1)
        have hm20 := HM.out
        have hwm : IntKind.i64.wrap ((m : Int) - 1) = (m : Int) - 1 := IntWalk.i64_in _ (by omega)
        by_cases hneg : n < 0
        · have HTX : Hid (txtL n = [45] ++ (dgs u).reverse) := Lib.hid (by unfold txtL; rw [if_pos hneg, HU.out])
          go_upto_region 10 with fail
          obtain ⟨w5, hw5⟩ : ∃ w5, w5 = wr.alloc (.cells #[] 5) := ⟨_, rfl⟩
          obtain ⟨B2, hB2⟩ : ∃ B2, B2 = wr.heap.size := ⟨_, rfl⟩
          have HO5 : Hid (w5.ownsRow B2 5 1 (.slice (some ⟨B2, 0, none⟩) 0 0) 0 (([] : List Int).map (Value.int .u8))) := Lib.hid (by rw [hw5, hB2]; exact World.ownsRow_lit wr #[] 0 (Nat.le_refl _) (Nat.zero_le _) rfl)
          have HB5 : Hid (Below B2 wr w5) := Lib.hid (by rw [hw5, hB2]; exact Below.alloc_self _ _)
          have HB2 : Hid (B2 = wr.heap.size) := Lib.hid hB2
          rw [← hw5, ← hB2]
          clear hw5 hB2
          obtain ⟨z0, hz0⟩ : ∃ z0 : Int, z0 = (m : Int) - 1 := ⟨_, rfl⟩
          have HZ0 := Lib.hid hz0
          rw [← hz0] at hwm
          clear hz0
          go_wp2_with (at_builtin; refine wpList_append1i rfl (.tmp 34) (.tmp 35) rfl B2 (some ⟨B2, 0, none⟩) 0 0 [] 45 rfl rfl HO5.out (by have := HB5.out.size; have := HB2.out; omega) (by omega) ?_; intro g6 c6 w6 ho6 hb6 _; have HO6 := Lib.hid ho6; have HB6 := Lib.hid (HB5.out.trans hb6); clear ho6 hb6)
          obtain ⟨wo, rfl⟩ : ∃ wo, wo = wr := ⟨wr, rfl⟩
          go_loopw [6, 7] (fun ov iv wx => ∃ (g2 m2 c2 q : Nat), ov = .slice (some ⟨g2, 0, none⟩) m2 c2 ∧ iv = .int .i64 (z0 - (q : Int)) ∧ q ≤ m ∧ wx.ownsRow B2 5 1 (.slice (some ⟨g2, 0, none⟩) m2 c2) m2 ((([45] : List Int) ++ ((dgs u).reverse.take q)).map (Value.int .u8)) ∧ m2 = 1 + q ∧ Below B2 wo wx)
            (fun _ iv _ => (intOf iv + 1).toNat)
          case atStart => exact ⟨g6, 1, c6, 0, rfl, by rw [HZ0.out]; simp, Nat.zero_le _, by rw [List.take_zero, List.append_nil]; exact by simpa using HO6.out, rfl, HB6.out⟩
          case round =>
            obtain ⟨g2, m2, c2, q, rfl, rfl, hq, ho2, hm2, hb2⟩ := hrel
            have HO2 := Lib.hid ho2
            have HBX := Lib.hid hb2
            have hm2b : m2 ≤ 30 := by omega
            have HM2 := Lib.hid hm2
            clear ho2 hb2 hm2
            by_cases hqm : q < m
            · obtain ⟨j, hj⟩ : ∃ j : Nat, j = m - 1 - q := ⟨_, rfl⟩
              have hjz : z0 - (q : Int) = (j : Int) := by have := HZ0.out; omega
              have hjn : j < m := by omega
              have hjI : (j : Int) < (m : Int) := by omega
              have hj0 : (0 : Int) ≤ (j : Int) := by omega
              have hwj : IntKind.i64.wrap ((j : Int) - 1) = (j : Int) - 1 := IntWalk.i64_in _ (by omega)
              have HJZ : Hid ((j : Int) - 1 = z0 - ((q + 1 : Nat) : Int)) := Lib.hid (by omega)
              have hlt := (HO.out.lt g rfl).2
              have hcell : wr.cell? ⟨g, j, none⟩ = some (.int .u8 (nth L j)) := by
                rw [HBX.out.cell (p := ⟨g, j, none⟩) (by rw [HB2.out]; exact hlt), HO.out.cellAt j (by omega), List.getElem?_map, nth_get? (by rw [HL.out]; exact hjn)]; rfl
              obtain ⟨x, hx⟩ : ∃ x, x = nth L j := ⟨_, rfl⟩
              rw [← hx] at hcell
              have HNX : Hid ((dgs u).reverse.take (q + 1) = (dgs u).reverse.take q ++ [x]) := Lib.hid (by
                have hl : (dgs u).reverse.length = m := by rw [List.length_reverse, ← HLD.out, HL.out]
                rw [take_nth (by rw [hl]; exact hqm), hx, HLD.out]
                have hl2 : (dgs u).length = m := by rw [← HLD.out, HL.out]
                rw [nth_get (by rw [hl]; exact hqm), nth_get (by rw [hl2]; exact hjn), List.getElem_reverse]
                congr 3
                omega)
              have HQM := Lib.hid hqm
              rw [hjz]
              clear hj hjz hx hlt hqm
              go_wp2_with (at_builtin; refine wpList_append1i rfl (.tmp 44) (.tmp 49) rfl B2 (some ⟨g2, 0, none⟩) m2 c2 (([45] : List Int) ++ ((dgs u).reverse.take q)) x rfl rfl HO2.out (by have := HBX.out.size; have := HB2.out; omega) (by omega) ?_; intro g3 c3 w6 ho6 hb6 _; have HO6 := Lib.hid ho6; have HB6 := Lib.hid (HBX.out.trans hb6); clear ho6 hb6)
              go_roundw
              case rel => exact ⟨g3, m2 + 1, c3, q + 1, rfl, by rw [← HJZ.out], by have := HQM.out; omega, by rw [HNX.out, ← List.append_assoc]; exact HO6.out, by have := HM2.out; omega, HB6.out⟩
              case measure => simp [intOf] <;> omega
            · obtain rfl : q = m := by omega
              have hex : z0 - (q : Int) < 0 := by have := HZ0.out; omega
              have hex2 : ¬ 0 ≤ z0 - (q : Int) := by omega
              obtain ⟨z1, hz1⟩ : ∃ z1, z1 = z0 - (q : Int) := ⟨_, rfl⟩
              rw [← hz1] at hex hex2 ⊢
              have HTK : Hid (([45] : List Int) ++ (dgs u).reverse.take q = txtL n) := Lib.hid (by rw [HTX.out, List.take_of_length_le (by rw [List.length_reverse, ← HLD.out, HL.out]; exact Nat.le_refl _)])
              rw [HTK.out] at HO2
              have hcv := run_convert_bytes_arg (P := Tryd.prog) wr 58 5 Tryd.underlying58 Tryd.underlying5 g2 0 m2 c2 (txtL n) (by have := HO2.out.1; simpa using this) (fun i hi => by
                have h := HO2.out.cellAt i (by omega)
                have hl : (txtL n).length = m2 := by have := HO2.out.1; simpa using this
                rw [Nat.zero_add, h, List.getElem?_map, nth_get? (by rw [hl]; exact hi)]; rfl) 9 Tryd.underlying9
              clear hz1
              go_wp2
              go_ret
              exact ⟨rfl, HB.out.trans (HBX.out.mono (by rw [HB2.out]; exact HB.out.size))⟩
        · have HTX : Hid (txtL n = [] ++ (dgs u).reverse) := Lib.hid (by unfold txtL; rw [if_neg hneg, HU.out])
          go_upto_region 10 with fail
          obtain ⟨w5, hw5⟩ : ∃ w5, w5 = wr.alloc (.cells #[] 5) := ⟨_, rfl⟩
          obtain ⟨B2, hB2⟩ : ∃ B2, B2 = wr.heap.size := ⟨_, rfl⟩
          have HO5 : Hid (w5.ownsRow B2 5 1 (.slice (some ⟨B2, 0, none⟩) 0 0) 0 (([] : List Int).map (Value.int .u8))) := Lib.hid (by rw [hw5, hB2]; exact World.ownsRow_lit wr #[] 0 (Nat.le_refl _) (Nat.zero_le _) rfl)
          have HB5 : Hid (Below B2 wr w5) := Lib.hid (by rw [hw5, hB2]; exact Below.alloc_self _ _)
          have HB2 : Hid (B2 = wr.heap.size) := Lib.hid hB2
          rw [← hw5, ← hB2]
          clear hw5 hB2
          obtain ⟨z0, hz0⟩ : ∃ z0 : Int, z0 = (m : Int) - 1 := ⟨_, rfl⟩
          have HZ0 := Lib.hid hz0
          rw [← hz0] at hwm
          clear hz0
          go_wp2
          obtain ⟨wo, rfl⟩ : ∃ wo, wo = wr := ⟨wr, rfl⟩
          go_loopw [6, 7] (fun ov iv wx => ∃ (g2 m2 c2 q : Nat), ov = .slice (some ⟨g2, 0, none⟩) m2 c2 ∧ iv = .int .i64 (z0 - (q : Int)) ∧ q ≤ m ∧ wx.ownsRow B2 5 1 (.slice (some ⟨g2, 0, none⟩) m2 c2) m2 ((([] : List Int) ++ ((dgs u).reverse.take q)).map (Value.int .u8)) ∧ m2 = 0 + q ∧ Below B2 wo wx)
            (fun _ iv _ => (intOf iv + 1).toNat)
          case atStart => exact ⟨B2, 0, 0, 0, rfl, by rw [HZ0.out]; simp, Nat.zero_le _, by rw [List.take_zero, List.append_nil]; exact HO5.out, rfl, HB5.out⟩
          case round =>
            obtain ⟨g2, m2, c2, q, rfl, rfl, hq, ho2, hm2, hb2⟩ := hrel
            have HO2 := Lib.hid ho2
            have HBX := Lib.hid hb2
            have hm2b : m2 ≤ 30 := by omega
            have HM2 := Lib.hid hm2
            clear ho2 hb2 hm2
            by_cases hqm : q < m
            · obtain ⟨j, hj⟩ : ∃ j : Nat, j = m - 1 - q := ⟨_, rfl⟩
              have hjz : z0 - (q : Int) = (j : Int) := by have := HZ0.out; omega
              have hjn : j < m := by omega
              have hjI : (j : Int) < (m : Int) := by omega
              have hj0 : (0 : Int) ≤ (j : Int) := by omega
              have hwj : IntKind.i64.wrap ((j : Int) - 1) = (j : Int) - 1 := IntWalk.i64_in _ (by omega)
              have HJZ : Hid ((j : Int) - 1 = z0 - ((q + 1 : Nat) : Int)) := Lib.hid (by omega)
              have hlt := (HO.out.lt g rfl).2
              have hcell : wr.cell? ⟨g, j, none⟩ = some (.int .u8 (nth L j)) := by
                rw [HBX.out.cell (p := ⟨g, j, none⟩) (by rw [HB2.out]; exact hlt), HO.out.cellAt j (by omega), List.getElem?_map, nth_get? (by rw [HL.out]; exact hjn)]; rfl
              obtain ⟨x, hx⟩ : ∃ x, x = nth L j := ⟨_, rfl⟩
              rw [← hx] at hcell
              have HNX : Hid ((dgs u).reverse.take (q + 1) = (dgs u).reverse.take q ++ [x]) := Lib.hid (by
                have hl : (dgs u).reverse.length = m := by rw [List.length_reverse, ← HLD.out, HL.out]
                rw [take_nth (by rw [hl]; exact hqm), hx, HLD.out]
                have hl2 : (dgs u).length = m := by rw [← HLD.out, HL.out]
                rw [nth_get (by rw [hl]; exact hqm), nth_get (by rw [hl2]; exact hjn), List.getElem_reverse]
                congr 3
                omega)
              have HQM := Lib.hid hqm
              rw [hjz]
              clear hj hjz hx hlt hqm
              go_wp2_with (at_builtin; refine wpList_append1i rfl (.tmp 44) (.tmp 49) rfl B2 (some ⟨g2, 0, none⟩) m2 c2 (([] : List Int) ++ ((dgs u).reverse.take q)) x rfl rfl HO2.out (by have := HBX.out.size; have := HB2.out; omega) (by omega) ?_; intro g3 c3 w6 ho6 hb6 _; have HO6 := Lib.hid ho6; have HB6 := Lib.hid (HBX.out.trans hb6); clear ho6 hb6)
              go_roundw
              case rel => exact ⟨g3, m2 + 1, c3, q + 1, rfl, by rw [← HJZ.out], by have := HQM.out; omega, by rw [HNX.out, ← List.append_assoc]; exact HO6.out, by have := HM2.out; omega, HB6.out⟩
              case measure => simp [intOf] <;> omega
            · obtain rfl : q = m := by omega
              have hex : z0 - (q : Int) < 0 := by have := HZ0.out; omega
              have hex2 : ¬ 0 ≤ z0 - (q : Int) := by omega
              obtain ⟨z1, hz1⟩ : ∃ z1, z1 = z0 - (q : Int) := ⟨_, rfl⟩
              rw [← hz1] at hex hex2 ⊢
              have HTK : Hid (([] : List Int) ++ (dgs u).reverse.take q = txtL n) := Lib.hid (by rw [HTX.out, List.take_of_length_le (by rw [List.length_reverse, ← HLD.out, HL.out]; exact Nat.le_refl _)])
              rw [HTK.out] at HO2
              have hcv := run_convert_bytes_arg (P := Tryd.prog) wr 58 5 Tryd.underlying58 Tryd.underlying5 g2 0 m2 c2 (txtL n) (by have := HO2.out.1; simpa using this) (fun i hi => by
                have h := HO2.out.cellAt i (by omega)
                have hl : (txtL n).length = m2 := by have := HO2.out.1; simpa using this
                rw [Nat.zero_add, h, List.getElem?_map, nth_get? (by rw [hl]; exact hi)]; rfl) 9 Tryd.underlying9
              clear hz1
              go_wp2
              go_ret
              exact ⟨rfl, HB.out.trans (HBX.out.mono (by rw [HB2.out]; exact HB.out.size))⟩
    · obtain ⟨q, hq⟩ : ∃ q, k.tdiv 10 = q := ⟨_, rfl⟩
      obtain ⟨t, ht⟩ : ∃ t, k.tmod 10 = t := ⟨_, rfl⟩
      have hqa : q.natAbs = k.natAbs / 10 := by rw [← hq]; exact natAbs_tdiv10 k
      have hta : t.natAbs = k.natAbs % 10 := by rw [← ht]; exact natAbs_tmod10 k
      have HD : Hid (L ++ [((48 + k.natAbs % 10 : Nat) : Int)] ++ dgz q.natAbs = dgs u) := Lib.hid (by
        rw [hqa, List.append_assoc]
        have e := dgs_step k.natAbs
        rcases HST.out with ⟨h1, h2⟩ | ⟨h1, h2⟩
        · obtain rfl : L = [] := List.eq_nil_of_length_eq_zero (by rw [HL.out, h1])
          rw [HU.out, ← h2]
          exact e.symm
        · have e2 : dgz k.natAbs = dgs k.natAbs := if_neg (by omega)
          rw [e2, e] at h2
          exact h2)
      have HM : Hid (m ≤ 20) := Lib.hid (by
        have e := congrArg List.length HD.out
        rw [List.length_append, List.length_append] at e
        have := HLN.out
        have := HL.out
        simp at e
        omega)
      have HQK : Hid (q.natAbs ≤ k.natAbs ∧ q.natAbs < k.natAbs) := Lib.hid (by omega)
      have hm20 := HM.out
      have hwq : IntKind.i64.wrap q = q := IntWalk.i64_in _ (by have := HK.out; omega)
      have hwt : IntKind.i64.wrap t = t := IntWalk.i64_in _ (by omega)
      obtain ⟨d, hd⟩ : ∃ d : Int, d = ((k.natAbs % 10 : Nat) : Int) := ⟨_, rfl⟩
      obtain ⟨s, hs⟩ : ∃ s : Int, s = 48 + d := ⟨_, rfl⟩
      have hws : IntKind.i64.wrap (48 + d) = s := by rw [hs]; exact IntWalk.i64_in _ (by omega)
      have hw8 : IntKind.u8.wrap s = s := IntWalk.u8_in _ (by omega)
      have HS : Hid (((48 + k.natAbs % 10 : Nat) : Int) = s) := Lib.hid (by omega)
      by_cases ht0 : t < 0
      · have hwd : IntKind.i64.wrap (0 - t) = d := by rw [show 0 - t = d by omega]; exact IntWalk.i64_in _ (by omega)
        have hwd2 : IntKind.i64.wrap (-t) = d := by rw [show -t = d by omega]; exact IntWalk.i64_in _ (by omega)
        clear hqa hta hd hs
        go_wp2_with (at_builtin; refine wpList_append1i rfl (.tmp 23) (.tmp 27) rfl w.heap.size (some ⟨g, 0, none⟩) m c L s rfl rfl HO.out HB.out.size (by omega) ?_; intro g' c2 w3 ho3 hb3 _)
        go_roundw
        case rel => exact ⟨g', m + 1, c2, q, L ++ [s], rfl, rfl, by have h1 := HK.out; have h2 := HQK.out.2; omega, ho3, by rw [List.length_append, HL.out]; rfl, HB.out.trans hb3, .inr ⟨Nat.succ_pos _, by rw [← HS.out]; exact HD.out⟩⟩
        case measure => simp [intOf, slenV]; have := HQK.out.2; omega
      · have hdt : d = t := by omega
        subst hdt
        clear hqa hta hd hs
        go_wp2_with (at_builtin; refine wpList_append1i rfl (.tmp 23) (.tmp 27) rfl w.heap.size (some ⟨g, 0, none⟩) m c L s rfl rfl HO.out HB.out.size (by omega) ?_; intro g' c2 w3 ho3 hb3 _)
        go_roundw
        case rel => exact ⟨g', m + 1, c2, q, L ++ [s], rfl, rfl, by have h1 := HK.out; have h2 := HQK.out.2; omega, ho3, by rw [List.length_append, HL.out]; rfl, HB.out.trans hb3, .inr ⟨Nat.succ_pos _, by rw [← HS.out]; exact HD.out⟩⟩
        case measure => simp [intOf, slenV]; have := HQK.out.2; omega
end Go.Proofs.YtdiiaallklkomaaDoor

/-
  Worlds that have only grown: draws, and new blocks behind the heap. Plain lemmas. No conditions.
-/


namespace Go.Proofs.YtdiiaallklkomaaDoor
open Go.RowKit

/-- w' is w, some draws on, with new blocks behind. -/
def Grew (w w' : World) : Prop := ∃ q os, w' = Go.Sort.grow (w.drewN q) os
theorem Grew.refl (w : World) : Grew w w := ⟨0, #[], by simp [Go.Sort.grow, World.drewN]⟩
theorem Grew.drewN {w w' : World} (h : Grew w w') (n : Nat) : Grew w (w'.drewN n) := by
  obtain ⟨q, os, rfl⟩ := h
  exact ⟨q + n, os, by simp [Go.Sort.grow, World.drewN, Nat.add_assoc]⟩
theorem Grew.drew {w w' : World} (h : Grew w w') : Grew w w'.drew := by
  obtain ⟨q, os, rfl⟩ := h
  exact ⟨q + 1, os, by simp [Go.Sort.grow, World.drewN, World.drew, Nat.add_assoc]⟩
theorem Grew.alloc {w w' : World} (h : Grew w w') (o : Obj) : Grew w (w'.alloc o) := by
  obtain ⟨q, os, rfl⟩ := h
  exact ⟨q, os ++ #[o], by rw [Go.Sort.alloc_eq_grow, Go.Sort.grow_grow]⟩
theorem Grew.trans {w w' w'' : World} (h : Grew w w') (h' : Grew w' w'') : Grew w w'' := by
  obtain ⟨q, os, rfl⟩ := h
  obtain ⟨q', os', rfl⟩ := h'
  exact ⟨q + q', os ++ os', by simp [Go.Sort.grow, World.drewN, Nat.add_assoc, Array.append_assoc]⟩
theorem Grew.of_drawn {w w' : World} (h : Drawn w w') : Grew w w' := by
  obtain ⟨m, rfl⟩ := h
  exact ⟨m, #[], (Go.Sort.grow_empty _).symm⟩
theorem Grew.below {w w' : World} (h : Grew w w') : Below w.heap.size w w' := by
  obtain ⟨q, os, rfl⟩ := h
  exact ⟨rfl, rfl, rfl, by simp, fun k hk => Go.Sort.heap_grow_old (w.drewN q) os hk⟩
theorem Grew.size {w w' : World} (h : Grew w w') : w.heap.size ≤ w'.heap.size := h.below.size
end Go.Proofs.YtdiiaallklkomaaDoor

/-
  The library's numeral at this translation, out of the table that the rows list; the program's FormatInt. Conditions: numbers that an int holds.
-/









namespace Go.Proofs.YtdiiaallklkomaaDoor
open Go.ChangeShapes Go.WideShapes Go.ChangeAt Go.RowKit

theorem ownF : ownKnob Tryd.prog.godebug = none := by kernel_rfl
theorem gPow : Tryd.prog.globalNamed "internal/strconv.uint64pow10" = some 0 := by kernel_rfl
theorem tPow : (Tryd.prog.globals[0]?).map (·.type) = some 137 := by kernel_rfl
theorem ePow : (Rows.laid_internal_strconv_uint64pow10 : DataW Unit) = Lib.tabData .u64 Lib.pow10Tab := by kernel_rfl
/-- What the rows of this translation list. -/
def laid3 : List (String × DataW Unit) := [("math/bits.deBruijn32tab", Rows.laid_math_bits_deBruijn32tab), ("math/bits.deBruijn64tab", Rows.laid_math_bits_deBruijn64tab), ("internal/strconv.uint64pow10", Rows.laid_internal_strconv_uint64pow10)]
/-- The table, out of what the row lists. -/
theorem pow_of_laid {W : World} (h : laidMetH Tryd.prog laid3 W) : Lib.TabIs Tryd.prog W "internal/strconv.uint64pow10" .u64 Lib.pow10Tab := by
  rw [MakeChecks.laidMetH_plain _ _ _ (by kernel_rfl)] at h
  obtain ⟨ps, ⟨g0, t0, cs0, f0, p0, q0, hg0, ht0, hv0, hd0, ⟨g1, t1, cs1, f1, p1, q1, hg1, ht1, hv1, hd1, ⟨g2, t2, cs2, f2, p2, q2, hg2, ht2, hv2, hd2, _⟩, _⟩, _⟩, _⟩ := h
  obtain rfl := Option.some.inj (gPow.symm.trans hg2)
  obtain rfl := Option.some.inj (tPow.symm.trans ht2)
  rw [ePow] at hd2
  have hc := Lib.cells_of_tab (n := 20) Tryd.underlying137 Tryd.underlying125 (by kernel_rfl) (by kernel_rfl) hd2
  unfold Lib.TabIs
  rw [hv2, ← hc]
theorem tab_below {w w' : World} (h : Lib.TabIs Tryd.prog w "internal/strconv.uint64pow10" .u64 Lib.pow10Tab) (hb : Below w.heap.size w w') : Lib.TabIs Tryd.prog w' "internal/strconv.uint64pow10" .u64 Lib.pow10Tab := by
  unfold Lib.TabIs World.var? at h ⊢
  rw [gPow] at h ⊢
  simp only [Option.bind_some] at h ⊢
  have hlt : 0 < w.heap.size := by
    rcases Nat.eq_zero_or_pos w.heap.size with h0 | h0
    · rw [Array.getElem?_eq_none (by omega)] at h; cases h
    · exact h0
  rw [hb.block 0 hlt]
  exact h
theorem itoa_any (n : Int) (h0 : -9223372036854775808 ≤ n) (h1 : n ≤ 9223372036854775807) (w : World) (htab : Lib.TabIs Tryd.prog w "internal/strconv.uint64pow10" .u64 Lib.pow10Tab) :
    Calls Tryd.prog 35 #[.int .i64 n] w fun e w' => e = .returned (.string (strOfNums (txtL n))) ∧ Grew w w' := by
  have hc := Any.strconv_Itoa Tryd.itoa n h0 h1 w htab
  rw [txtL_itoa (by omega)]
  exact hc
set_option maxHeartbeats 400000 in
theorem implFmt_any (n : Int) (w : World) (h0 : -9223372036854775808 ≤ n) (h1 : n ≤ 9223372036854775807) (htab : Lib.TabIs Tryd.prog w "internal/strconv.uint64pow10" .u64 Lib.pow10Tab) :
    Calls Tryd.prog 10 #[.int .i64 n] w fun e w' => e = .returned (.string (strOfNums (txtL n))) ∧ Grew w w' := by
  have HI := Lib.hid (itoa_any n h0 h1 w htab)
  clear htab
  go_enter Tryd.func10, Tryd.ntmps10
  go_wp2_with (go_at_call 35; (with_reducible refine HI.out.mono ?_); rintro e w2 ⟨rfl, hg⟩; have HG := Lib.hid hg; clear hg)
  go_ret
  exact ⟨rfl, HG.out⟩
end Go.Proofs.YtdiiaallklkomaaDoor

/-
  Lists of numbers as texts: the document's FormatInts. Conditions: at most 2^20 numbers that an int holds.
-/

namespace Go.Proofs.YtdiiaallklkomaaDoor
open Go.RowKit

theorem strOfNums_append (a b : List Int) : strOfNums (a ++ b) = strOfNums a ++ strOfNums b := by
  apply ByteArray.ext
  apply Array.ext'
  rw [strOfNums_data]
  show _ = (strOfNums a ++ strOfNums b).data.toList
  rw [ByteArray.data_append, Array.toList_append, strOfNums_data, strOfNums_data, List.map_append]
/-- The text of the first k numbers, as bytes. -/
def txP (xs : List Int) : Nat → List Int
  | 0 => []
  | k + 1 => txP xs k ++ ((if k = 0 then [] else [32]) ++ txtL (nth xs k))
theorem txP_first {xs : List Int} : txP xs 1 = txtL (nth xs 0) := by simp [txP]
theorem txP_more {xs : List Int} {k : Nat} (h : k ≠ 0) : txP xs (k + 1) = (txP xs k ++ [32]) ++ txtL (nth xs k) := by
  rw [txP, if_neg h, List.append_assoc]
def fmsL (xs : List Int) : List Int := txP xs xs.length
def FitI (xs : List Int) : Prop := ∀ k, k < xs.length → -9223372036854775808 ≤ nth xs k ∧ nth xs k ≤ 9223372036854775807
theorem fitI_of {xs : List Int} (h : ∀ z ∈ xs, -9223372036854775808 ≤ z ∧ z ≤ 9223372036854775807) : FitI xs := fun k hk => h _ (by rw [nth_get hk]; exact List.getElem_mem _)
theorem txtL_len {n : Int} (h : -9223372036854775808 ≤ n ∧ n ≤ 9223372036854775807) : (txtL n).length ≤ 21 := by
  unfold txtL
  have := dgs_len 19 n.natAbs (by omega)
  rw [List.length_append, List.length_reverse]
  split <;> simp <;> omega
theorem txP_len {xs : List Int} (h : FitI xs) : ∀ k, k ≤ xs.length → (txP xs k).length ≤ 22 * k
  | 0, _ => Nat.le_refl _
  | k + 1, hk => by
    have h1 := txP_len h k (by omega)
    have h2 := txtL_len (h k (by omega))
    rw [txP, List.length_append, List.length_append]
    split <;> simp <;> omega

set_option maxRecDepth 100000 in
set_option maxHeartbeats 2000000 in
theorem specFms_any (A : Option Addr) (n c : Nat) (xs : List Int) (w : World) (hs : SI w A n xs) (hn : n ≤ 1048576) (hf : FitI xs) :
    Calls Tryd.prog 11 #[.slice A n c] w fun e w' => e = .returned (.string (strOfNums (fmsL xs))) ∧ Below w.heap.size w w' := by
  have HL := Lib.hid hs.1
  have HF := Lib.hid hf
  clear hf
  go_enter Tryd.func11, Tryd.ntmps11
  go_wp2
  go_loopw [3, 4] (fun sv iv wr => ∃ k : Nat, k ≤ n ∧ iv = .int .i64 k ∧ sv = .string (strOfNums (txP xs k)) ∧ Below w.heap.size w wr)
    (fun _ iv _ => n - (intOf iv).toNat)
  case atStart => exact ⟨0, Nat.zero_le _, rfl, rfl, Below.refl _ _⟩
  case round =>
    obtain ⟨k, hk, rfl, rfl, hb⟩ := hrel
    have HB := Lib.hid hb
    clear hb
    by_cases hlt : k < n
    · have hlI : (k : Int) < (n : Int) := by omega
      obtain ⟨b, o, rfl, hb0, hc⟩ := (hs.below HB.out (Nat.le_refl _)).at_ (by omega)
      have hck := hc k hlt
      have HX := Lib.hid (HF.out k (by rw [HL.out]; exact hlt))
      have HSM := Lib.hid (txP_len HF.out k (by rw [HL.out]; exact hk))
      obtain ⟨x, hx⟩ : ∃ x, x = nth xs k := ⟨_, rfl⟩
      rw [← hx] at hck HX
      have HXE := Lib.hid hx
      have HFI := Lib.hid (fun u => specFmt_any x u HX.out.1 HX.out.2)
      clear hc hs hx hb0
      rcases Nat.eq_zero_or_pos k with h0 | h0
      · subst h0
        rw [Nat.add_zero] at hck
        obtain ⟨s, hs⟩ : ∃ s, s = strOfNums (txtL x) := ⟨_, rfl⟩
        have HN : Hid (strOfNums (txP xs 1) = s) := Lib.hid (by rw [hs, txP_first, ← HXE.out])
        have HE : Hid (strOfNums (txP xs 0) = ByteArray.empty) := Lib.hid rfl
        rw [← hs] at HFI
        rw [HE.out]
        have hsz : s.size ≤ 21 := by rw [hs, strOfNums_size]; exact txtL_len HX.out
        clear hs
        go_wp2_with (go_at_call 9; (with_reducible refine (HFI.out _).mono ?_); rintro e w2 ⟨rfl, hb2⟩; have HB2 := Lib.hid hb2; clear hb2)
        all_goals try (exfalso; omega)
        go_roundw
        case rel => exact ⟨1, by omega, by go_num, by rw [HN.out], HB.out.trans (HB2.out.mono HB.out.size)⟩
        case measure => simp [intOf]; omega
      · have hk0 : (0 : Int) < (k : Int) := by omega
        obtain ⟨s, hs⟩ : ∃ s, s = strOfNums (txtL x) := ⟨_, rfl⟩
        obtain ⟨t, ht⟩ : ∃ t, t = strOfNums (txP xs k) := ⟨_, rfl⟩
        have HN : Hid (strOfNums (txP xs (k + 1)) = t ++ (⟨#[32]⟩ : ByteArray) ++ s) := Lib.hid (by rw [txP_more (by omega), strOfNums_append, strOfNums_append, hs, ht, ← HXE.out]; rfl)
        rw [← hs] at HFI
        rw [← ht]
        have hsz : s.size ≤ 21 := by rw [hs, strOfNums_size]; exact txtL_len HX.out
        have htz : t.size ≤ 23068672 := by rw [ht, strOfNums_size]; have := HSM.out; omega
        have hzz : (t ++ (⟨#[32]⟩ : ByteArray)).size = t.size + 1 := by rw [ByteArray.size_append]; rfl
        have h32 : (⟨#[32]⟩ : ByteArray).size = 1 := rfl
        clear hs ht
        go_wp2_with (go_at_call 9; (with_reducible refine (HFI.out _).mono ?_); rintro e w2 ⟨rfl, hb2⟩; have HB2 := Lib.hid hb2; clear hb2)
        all_goals try (exfalso; omega)
        go_roundw
        case rel => exact ⟨k + 1, by omega, by go_num, by rw [HN.out], HB.out.trans (HB2.out.mono HB.out.size)⟩
        case measure => simp [intOf]; omega
    · obtain rfl : k = n := by omega
      go_wp2
      go_ret
      exact ⟨by unfold fmsL; rw [HL.out]; rfl, HB.out⟩
end Go.Proofs.YtdiiaallklkomaaDoor

/-
  Lists of numbers as texts: the program's FormatInts. Conditions: at most 2^20 numbers that an int holds; the library's table.
-/



namespace Go.Proofs.YtdiiaallklkomaaDoor
open Go.RowKit

theorem Tryd.infoByteX : (Tryd.prog.info? 5).map (fun i => (i.zero, i.size, i.bytes)) = some (some (.int .u8 0), 1, 1) := by kernel_rfl
theorem Tryd.wb_x : Builder.Extra Tryd.prog Tryd.wb_ren := { sizeBuilder := by kernel_rfl, liesBuilder := by kernel_rfl, t5 := Tryd.underlying5, a5 := Tryd.isAgg5, z5 := Tryd.sizeOf5, v5 := Tryd.zeroValue5, infoByte := by kernel_rfl, cellsByte := by kernel_rfl, sizeByte := by kernel_rfl, neB5 := by decide }
theorem Tryd.ws_x : Builder.Extra Tryd.prog Tryd.ws_ren := { sizeBuilder := by kernel_rfl, liesBuilder := by kernel_rfl, t5 := Tryd.underlying5, a5 := Tryd.isAgg5, z5 := Tryd.sizeOf5, v5 := Tryd.zeroValue5, infoByte := by kernel_rfl, cellsByte := by kernel_rfl, sizeByte := by kernel_rfl, neB5 := by decide }
theorem Tryd.st_x : Builder.Extra Tryd.prog Tryd.st_ren := { sizeBuilder := by kernel_rfl, liesBuilder := by kernel_rfl, t5 := Tryd.underlying5, a5 := Tryd.isAgg5, z5 := Tryd.sizeOf5, v5 := Tryd.zeroValue5, infoByte := by kernel_rfl, cellsByte := by kernel_rfl, sizeByte := by kernel_rfl, neB5 := by decide }
theorem Tryd.join_x : Builder.Extra Tryd.prog Tryd.join_ren := { sizeBuilder := by kernel_rfl, liesBuilder := by kernel_rfl, t5 := Tryd.underlying5, a5 := Tryd.isAgg5, z5 := Tryd.sizeOf5, v5 := Tryd.zeroValue5, infoByte := by kernel_rfl, cellsByte := by kernel_rfl, sizeByte := by kernel_rfl, neB5 := by decide }
theorem ownsRow_below {w w' : World} {base size n B : Nat} {e : TypeId} {v : Value} {xs : List Value} (h : w.ownsRow base e size v n xs) (hb : Below B w w') (hB : w.heap.size ≤ B) : w'.ownsRow base e size v n xs := by
  refine ⟨h.1, ?_⟩
  rcases h.2 with hn | ⟨g, cap, cur, ev, hl, hg, rest⟩
  · exact .inl hn
  · have hlt : g < w.heap.size := by
      rcases Nat.lt_or_ge g w.heap.size with h1 | h1
      · exact h1
      · rw [Array.getElem?_eq_none h1] at hg; cases hg
    exact .inr ⟨g, cap, cur, ev, hl, (hb.block g (by omega)).trans hg, rest⟩
theorem isB_below {T e : TypeId} {B b C : Nat} {bs : List Value} {w w' : World} (h : Lib.IsBuilder T e B b bs w) (hb : Below C w w') (hC : w.heap.size ≤ C) : Lib.IsBuilder T e B b bs w' := by
  have one : ∀ p, Lib.BuilderAt T e B b p bs w → Lib.BuilderAt T e B b p bs w' := by
    rintro p ⟨h1, v, hv, ho, hne⟩
    have hlt : b < w.heap.size := by
      rcases Nat.lt_or_ge b w.heap.size with h1 | h1
      · exact h1
      · rw [Array.getElem?_eq_none h1] at hv; cases hv
    exact ⟨h1, v, (hb.block b (by omega)).trans hv, ownsRow_below ho hb hC, hne⟩
  rcases h with h | h
  · exact .inl (one _ h)
  · exact .inr (one _ h)
/-- Bytes as the library counts them. -/
def by8 (xs : List Int) : List UInt8 := xs.map fun n => UInt8.ofNat n.toNat
theorem by8_append (a b : List Int) : by8 (a ++ b) = by8 a ++ by8 b := List.map_append
theorem by8_len (a : List Int) : (by8 a).length = a.length := List.length_map ..
theorem strOfNums_by8 (a : List Int) : strOfNums a = ⟨(by8 a).toArray⟩ := rfl
theorem wb_any (B b : Nat) (bs : List Value) (w : World) (h : Lib.IsBuilder 61 5 B b bs w) (hlen : bs.length + 1 ≤ 140737488355328) (hBw : B ≤ w.heap.size) :
    Calls Tryd.prog 36 #[.pointer (some ⟨b, 0, none⟩), .int .u8 32] w fun e w' => e = .returned .nilIface ∧ (Lib.BuilderAt 61 5 B b (.pointer (some ⟨b, 0, none⟩)) (bs ++ [.int .u8 32]) w' ∧ Below B w w') :=
  Any.Builder_WriteByte Tryd.wb Tryd.wb_x B b bs 32 w h hlen hBw
theorem ws_any (B b : Nat) (bs : List Value) (s : ByteArray) (w : World) (h : Lib.IsBuilder 61 5 B b bs w) (hlen : bs.length + s.size ≤ 140737488355328) (hBw : B ≤ w.heap.size) :
    Calls Tryd.prog 37 #[.pointer (some ⟨b, 0, none⟩), .string s] w fun e w' => e = .returned (.tuple #[.int .i64 s.size, .nilIface]) ∧ (Lib.BuilderAt 61 5 B b (.pointer (some ⟨b, 0, none⟩)) (bs ++ Lib.strCells s) w' ∧ Below B w w') :=
  Any.Builder_WriteString Tryd.ws Tryd.ws_x B b bs s w h hlen hBw
theorem st_any (B b : Nat) (l : List UInt8) (w : World) (h : Lib.IsBuilder 61 5 B b (Lib.byteCells l) w) (hBw : B ≤ w.heap.size) :
    Calls Tryd.prog 38 #[.pointer (some ⟨b, 0, none⟩)] w fun e w' => e = .returned (.string ⟨l.toArray⟩) ∧ Below B w w' :=
  Any.Builder_String_any Tryd.st Tryd.st_x B b l w h hBw

set_option maxRecDepth 100000 in
set_option maxHeartbeats 2000000 in
theorem implFms_any (A : Option Addr) (n c : Nat) (xs : List Int) (w : World) (hs : SI w A n xs) (hn : n ≤ 1048576) (hf : FitI xs) (htab : Lib.TabIs Tryd.prog w "internal/strconv.uint64pow10" .u64 Lib.pow10Tab) :
    Calls Tryd.prog 13 #[.slice A n c] w fun e w' => e = .returned (.string (strOfNums (fmsL xs))) ∧ Below w.heap.size w w' := by
  have HL := Lib.hid hs.1
  have HF := Lib.hid hf
  have HTB := Lib.hid (fun (u : World) (hu : Below w.heap.size w u) => tab_below htab hu)
  obtain ⟨B, hB⟩ : ∃ B, B = w.heap.size := ⟨_, rfl⟩
  obtain ⟨w1, hw1⟩ : ∃ w1, w1 = w.alloc (.cells #[.pointer none, .slice none 0 0] 61) := ⟨_, rfl⟩
  have HI1 : Hid (Lib.IsBuilder 61 5 B B (Lib.byteCells (by8 (txP xs 0))) w1) := Lib.hid (by rw [hB, hw1]; exact Lib.fresh_isBuilder _ _ w)
  have HB1 : Hid (Below B w w1) := Lib.hid (by rw [hw1, hB]; exact Below.alloc_self _ _)
  have HBE := Lib.hid hB
  have HW1 := Lib.hid hw1
  clear hf htab hB hw1
  go_enter Tryd.func13, Tryd.ntmps13
  go_upto_region 2 with fail
  rw [← HW1.out, ← HBE.out]
  go_wp2
  go_loopw [8] (fun iv wr => ∃ k : Nat, k ≤ n ∧ iv = .int .i64 k ∧ Lib.IsBuilder 61 5 B B (Lib.byteCells (by8 (txP xs k))) wr ∧ Below B w wr)
    (fun iv _ => n - (intOf iv).toNat)
  case atStart => exact ⟨0, Nat.zero_le _, rfl, HI1.out, HB1.out⟩
  case round =>
    obtain ⟨k, hk, rfl, hi, hb⟩ := hrel
    have HI := Lib.hid hi
    have HB := Lib.hid hb
    have HBS : Hid (B ≤ wr.heap.size) := Lib.hid (by rw [HBE.out]; exact hb.size)
    clear hi hb
    have HSM := Lib.hid (txP_len HF.out k (by rw [HL.out]; exact hk))
    by_cases hlt : k < n
    · have hlI : (k : Int) < (n : Int) := by omega
      obtain ⟨b, o, rfl, hb0, hc⟩ := (hs.below HB.out (by rw [HBE.out]; exact Nat.le_refl _)).at_ (by omega)
      have hck := hc k hlt
      have HX := Lib.hid (HF.out k (by rw [HL.out]; exact hlt))
      obtain ⟨x, hx⟩ : ∃ x, x = nth xs k := ⟨_, rfl⟩
      rw [← hx] at hck HX
      have HXE := Lib.hid hx
      have HTL := Lib.hid (txtL_len HX.out)
      have HFI := Lib.hid (fun (u : World) (hu : Below B w u) => implFmt_any x u HX.out.1 HX.out.2 (HTB.out u (by rw [← HBE.out]; exact hu)))
      clear hc hs hx hb0
      obtain ⟨s, hs⟩ : ∃ s, s = strOfNums (txtL x) := ⟨_, rfl⟩
      have HSE := Lib.hid hs
      rw [← hs] at HFI
      have HSZ : Hid (s.size ≤ 21) := Lib.hid (by rw [hs, strOfNums_size]; exact HTL.out)
      clear hs
      rcases Nat.eq_zero_or_pos k with h0 | h0
      · subst h0
        rw [Nat.add_zero] at hck
        have HN : Hid (Lib.byteCells (by8 (txP xs 1)) = Lib.byteCells (by8 (txP xs 0)) ++ Lib.strCells s) := Lib.hid (by rw [HSE.out, txP_first, ← HXE.out]; rfl)
        go_wp2_with (first
          | (go_at_call 10; (with_reducible refine (HFI.out _ HB.out).mono ?_); rintro e w2 ⟨rfl, hg⟩; have HI2 := Lib.hid (isB_below HI.out hg.below (Nat.le_refl _)); have HB2 : Hid (Below B w w2) := Lib.hid (HB.out.trans (hg.below.mono HBS.out)); have HZ2 : Hid (B ≤ w2.heap.size) := Lib.hid (Nat.le_trans HBS.out hg.size); clear hg)
          | (go_at_call 37; (with_reducible refine (ws_any B B _ s w2 HI2.out (by rw [Lib.byteCells_length, by8_len]; have := HSZ.out; have := HSM.out; omega) HZ2.out).mono ?_); rintro e w3 ⟨rfl, hi3, hb3⟩; have HI3 := Lib.hid hi3; have HB3 : Hid (Below B w w3) := Lib.hid (HB2.out.trans hb3); clear hi3 hb3))
        go_roundw
        case rel => exact ⟨1, by omega, by go_num, by rw [HN.out]; exact .inr HI3.out, HB3.out⟩
        case measure => simp [intOf]; omega
      · have hk0 : (0 : Int) < (k : Int) := by omega
        have HN : Hid (Lib.byteCells (by8 (txP xs (k + 1))) = (Lib.byteCells (by8 (txP xs k)) ++ [.int .u8 32]) ++ Lib.strCells s) := Lib.hid (by rw [HSE.out, txP_more (by omega), ← HXE.out, by8_append, by8_append, Lib.byteCells_append, Lib.byteCells_append]; rfl)
        go_wp2_with (first
          | (go_at_call 36; (with_reducible refine (wb_any B B _ wr HI.out (by rw [Lib.byteCells_length, by8_len]; have := HSM.out; omega) HBS.out).mono ?_); rintro e w1' ⟨rfl, hi1, hb1⟩; have HIa : Hid (Lib.IsBuilder 61 5 B B (Lib.byteCells (by8 (txP xs k)) ++ [.int .u8 32]) w1') := Lib.hid (.inr hi1); have HBa : Hid (Below B w w1') := Lib.hid (HB.out.trans hb1); have HZa : Hid (B ≤ w1'.heap.size) := Lib.hid (Nat.le_trans HBS.out hb1.size); clear hi1 hb1)
          | (go_at_call 10; (with_reducible refine (HFI.out _ HBa.out).mono ?_); rintro e w2 ⟨rfl, hg⟩; have HI2 := Lib.hid (isB_below HIa.out hg.below (Nat.le_refl _)); have HB2 : Hid (Below B w w2) := Lib.hid (HBa.out.trans (hg.below.mono HZa.out)); have HZ2 : Hid (B ≤ w2.heap.size) := Lib.hid (Nat.le_trans HZa.out hg.size); clear hg)
          | (go_at_call 37; (with_reducible refine (ws_any B B _ s w2 HI2.out (by rw [List.length_append, Lib.byteCells_length, by8_len]; have := HSZ.out; have := HSM.out; simp; omega) HZ2.out).mono ?_); rintro e w3 ⟨rfl, hi3, hb3⟩; have HI3 := Lib.hid hi3; have HB3 : Hid (Below B w w3) := Lib.hid (HB2.out.trans hb3); clear hi3 hb3))
        go_roundw
        case rel => exact ⟨k + 1, by omega, by go_num, by rw [HN.out]; exact .inr HI3.out, HB3.out⟩
        case measure => simp [intOf]; omega
    · obtain rfl : k = n := by omega
      go_wp2_with (go_at_call 38; (with_reducible refine (st_any B B (by8 (txP xs k)) wr HI.out HBS.out).mono ?_); rintro e w2 ⟨rfl, hb2⟩; have HB2 := Lib.hid hb2; clear hb2)
      go_ret
      exact ⟨by unfold fmsL; rw [HL.out, strOfNums_by8]; rfl, by rw [← HBE.out]; exact HB.out.trans HB2.out⟩
end Go.Proofs.YtdiiaallklkomaaDoor

/-
  Opening a slice of integers that came in; closed facts of this dump. No conditions.
-/




namespace Go.Proofs.YtdiiaallklkomaaDoor
open Go.ChangeShapes Go.WideShapes Go.ChangeAt Go.RowKit

theorem own : ownKnob Tryd.prog.godebug = none := by kernel_rfl
theorem laidOut : laidOutB Tryd.prog = true := by kernel_rfl

/-- What an opened slice of integers gives: it reads as its numbers. -/
theorem SI.of_cells {w : World} {a : Addr} {n : Nat} {zs : List Int} (hl : n ≤ zs.length) (hc : ∀ i, i < zs.length → w.cell? (a.add i) = some (.int .i64 (zs.getD i 0))) : SI w (some a) n (zs.take n) := by
  refine ⟨by simp; omega, fun hn => ?_⟩
  obtain ⟨b, o, s⟩ := a
  have h0 := hc 0 (by omega)
  have hs : s = none := by simpa [Addr.add] using World.cell?_spot h0
  subst hs
  refine ⟨b, o, rfl, block_lt_of_cell (a := ⟨b, o, none⟩) (by simpa [Addr.add] using h0), fun k hk => ?_⟩
  rw [nth_take hk, ← add_pt]
  exact hc k (by omega)

/-- Every number fits an int. -/
def Fits (xs : List Int) : Prop := ∀ x ∈ xs, -9223372036854775808 ≤ x ∧ x ≤ 9223372036854775807
theorem SI.of_trod {H : Type} {enc : TypeId × Value → H} {W : World} {q : Nat} {f : Nat → Bool} {a0 : Option Addr} {len0 cap0 : Nat} {d : DataW H} {p : List MemPlace}
    (h0 : DataW.Trod enc Tryd.prog W q f true 24 (.slice a0 len0 cap0) d p) : ∃ xs, SI W a0 len0 xs ∧ Fits xs := by
  obtain ⟨fuel, hf⟩ := h0
  rcases open_ints Tryd.underlying24 Tryd.underlying3 (by kernel_rfl) hf with ⟨hcs, _⟩ | ⟨x, l, c, zs, hcs, _, hl, hm, hz, _, hcell, hwz⟩
  · simp [Value.cells] at hcs
    obtain ⟨rfl, rfl, rfl⟩ := hcs
    exact ⟨[], SI.nil _ _, fun x hx => by cases hx⟩
  · simp [Value.cells] at hcs
    obtain ⟨rfl, rfl, rfl⟩ := hcs
    exact ⟨_, SI.of_cells (by rw [hz]; split <;> omega) hcell, fun n hn => bounds_i64 (hwz n (List.mem_of_mem_take hn))⟩
end Go.Proofs.YtdiiaallklkomaaDoor

/-
  Copying a slice of numbers into an array. Conditions: the slice is no longer than the array.
-/


namespace Go.Proofs.YtdiiaallklkomaaDoor
open Go.RowKit

/-- A list with zeros behind it. -/
def padN (N : Nat) (xs : List Int) : List Int := xs ++ List.replicate (N - xs.length) 0
theorem padN_len {N : Nat} {xs : List Int} (h : xs.length ≤ N) : (padN N xs).length = N := by simp [padN]; omega
theorem padN_nth (N : Nat) (xs : List Int) (k : Nat) : nth (padN N xs) k = nth xs k := by
  unfold padN nth
  rw [List.getD_eq_getElem?_getD, List.getD_eq_getElem?_getD]
  by_cases h : k < xs.length
  · rw [List.getElem?_append_left h]
  · rw [List.getElem?_append_right (by omega), List.getElem?_eq_none (l := xs) (by omega), List.getElem?_replicate]
    split <;> rfl
theorem nth_out {xs : List Int} {k : Nat} (h : xs.length ≤ k) : nth xs k = 0 := by
  unfold nth
  rw [List.getD_eq_getElem?_getD, List.getElem?_eq_none h]; rfl
theorem Tryd.infoIntA : (Tryd.prog.info? 3).map (·.size) = some 1 := by kernel_rfl
/-- 'copy(a[:], s)' where the array a holds zeros. -/
theorem wpList_copy_arr {ops : Array Oper} {rest : List Oper} {o : Oper} {a : Act} {w : World} {Q : Exit → Act → World → Prop} (hgd : o.guard = none) (d s : Operand)
    (ho : o.op = .call { callee := .builtin .copy, args := #[d, s], argTypes := #[24, 24] }) (g N : Nat) (A : Option Addr) (n c : Nat) (hd : a.eval d = .slice (some ⟨g, 0, none⟩) N N) (hs : a.eval s = .slice A n c)
    (t : TypeId) (xs : List Int) (hblk : Blk w g t ((List.replicate N (0 : Int)).map (Value.int .i64)).toArray) (hsi : SI w A n xs) (hle : n ≤ N)
    (hK : ∀ w', Blk w' g t ((padN N xs).map (Value.int .i64)).toArray → w.grownBy w' (some g) → wpList Tryd.prog ops Q rest (a.put o.dst (goInt n)) w') : wpList Tryd.prog ops Q (o :: rest) a w := by
  have hl := hsi.1
  by_cases h0 : n = 0
  · subst h0
    obtain rfl : xs = [] := List.eq_nil_of_length_eq_zero hl
    exact Go.wpList_copy_nothing hgd d s 24 24 ho 3 Tryd.underlying24 Tryd.infoIntA (some ⟨g, 0, none⟩) A N N 0 c hd hs (by simp) (hK w (by simpa [padN] using hblk) (World.grownBy.refl _ _))
  · obtain ⟨b, off, rfl, hb, hc⟩ := hsi.2 (by omega)
    have hE : (((List.replicate N (0 : Int)).map (Value.int .i64)).toArray.toList.take 0 ++ (xs.map (Value.int .i64) ++ ((List.replicate N (0 : Int)).map (Value.int .i64)).toArray.toList.drop (0 + (xs.map (Value.int .i64)).length))).toArray = ((padN N xs).map (Value.int .i64)).toArray := by
      simp [padN, List.drop_replicate]
    refine Go.wpList_copy_own hgd d s 24 24 ho 3 Tryd.underlying24 Tryd.infoIntA g 0 N N ⟨b, off, none⟩ n c hd hs _ t hblk (xs.map (Value.int .i64)) (by simp [hl]; exact (Nat.min_eq_left hle).symm) ?_ (by simp [hl]; omega) (ints_oneCell _ _) ?_
    · intro j v hj
      have hjl : j < xs.length := by
        rcases Nat.lt_or_ge j xs.length with h | h
        · exact h
        · rw [List.getElem?_eq_none (by simpa using h)] at hj; cases hj
      rw [List.getElem?_map, nth_get? hjl] at hj
      rw [add_pt, hc j (by omega)]
      exact hj
    · rw [hE]
      have hk := hK (w.setRow g ((padN N xs).map (Value.int .i64)).toArray) (hblk.row _) (grownBy_setRow w g _)
      simpa [hl] using hk
end Go.Proofs.YtdiiaallklkomaaDoor

/-
  What a permutation is: the specification's test by its contract. Conditions: the length is at most 2^40.
-/

namespace Go.Proofs.YtdiiaallklkomaaDoor
open Go.RowKit

/-- Is a number among the first of a list (not unfolded by the walk). -/
def hasB (xs : List Int) (x : Int) : Bool := decide (x ∈ xs)
/-- Is place k of the list one that a permutation may have. -/
def goodAt (xs : List Int) (k : Nat) : Prop := 0 ≤ nth xs k ∧ nth xs k ≤ (xs.length : Int) - 1 ∧ hasB (xs.take k) (nth xs k) = false
instance (xs : List Int) (k : Nat) : Decidable (goodAt xs k) := by unfold goodAt; infer_instance
def isPermP (xs : List Int) : Prop := 1 ≤ xs.length ∧ xs.length ≤ 7 ∧ ∀ k, k < xs.length → goodAt xs k
/-- Is the list a permutation (not unfolded by the walk). -/
def isPermB (xs : List Int) : Bool := decide (1 ≤ xs.length) && decide (xs.length ≤ 7) && (List.range xs.length).all fun k => decide (goodAt xs k)
theorem isPermB_iff (xs : List Int) : isPermB xs = true ↔ isPermP xs := by
  simp [isPermB, isPermP, and_assoc]
theorem isPermB_true {xs : List Int} (h : isPermP xs) : isPermB xs = true := (isPermB_iff xs).2 h
theorem isPermB_false {xs : List Int} (h : ¬ isPermP xs) : isPermB xs = false := by
  cases hb : isPermB xs with
  | false => rfl
  | true => exact absurd ((isPermB_iff xs).1 hb) h
theorem hasB_nil (x : Int) : hasB [] x = false := by simp [hasB]
theorem hasB_hit {xs : List Int} {k : Nat} (hk : k < xs.length) : hasB xs (nth xs k) = true := by
  rw [nth_get hk]; simp [hasB]
theorem hasB_all {xs : List Int} {x : Int} (h : ∀ j, j < xs.length → nth xs j ≠ x) : hasB xs x = false := by
  simp only [hasB, decide_eq_false_iff_not]
  intro hm
  obtain ⟨j, hj, e⟩ := List.mem_iff_getElem.1 hm
  exact h j hj (by rw [nth_get hj]; exact e)

theorem l1In_any (a lo hi : Int) (w : World) :
    Calls Tryd.prog 71 #[.int .i64 a, .int .i64 lo, .int .i64 hi] w fun e w' => e = .returned (.bool (decide (lo ≤ a) && decide (a ≤ hi))) ∧ w = w' := by
  by_cases h1 : lo ≤ a
  · by_cases h2 : a ≤ hi
    · go_enter Tryd.func71, Tryd.ntmps71
      go_wp2
      go_ret
      exact ⟨ret_bool (by simp [h1, h2]), rfl⟩
    · go_enter Tryd.func71, Tryd.ntmps71
      go_wp2
      go_ret
      exact ⟨ret_bool (by simp [h2]), rfl⟩
  · have h1' : a < lo := by omega
    go_enter Tryd.func71, Tryd.ntmps71
    go_wp2
    go_ret
    exact ⟨ret_bool (by simp; intro; omega), rfl⟩
theorem l1In_yes' {a lo hi : Int} (h : lo ≤ a) (h' : a ≤ hi) (w : World) :
    Calls Tryd.prog 71 #[.int .i64 a, .int .i64 lo, .int .i64 hi] w fun e w' => e = .returned (.bool true) ∧ w = w' := by
  have := l1In_any a lo hi w
  simpa [h, h'] using this
theorem l1In_no' {a lo hi : Int} (h : a < lo ∨ hi < a) (w : World) :
    Calls Tryd.prog 71 #[.int .i64 a, .int .i64 lo, .int .i64 hi] w fun e w' => e = .returned (.bool false) ∧ w = w' := by
  have e : (decide (lo ≤ a) && decide (a ≤ hi)) = false := by simp; omega
  have := l1In_any a lo hi w
  rwa [e] at this
theorem l1In_yes {a lo hi : Int} (h : lo ≤ a) (h' : a ≤ hi) (w : World) :
    Calls Tryd.prog 71 #[.int .i64 a, .int .i64 lo, .int .i64 hi] w fun e w' => e = .returned (.bool true) ∧ Drawn w w' :=
  (l1In_yes' h h' w).mono fun _ _ ⟨he, hw⟩ => ⟨he, hw ▸ Drawn.refl _⟩
theorem l1In_no {a lo hi : Int} (h : a < lo ∨ hi < a) (w : World) :
    Calls Tryd.prog 71 #[.int .i64 a, .int .i64 lo, .int .i64 hi] w fun e w' => e = .returned (.bool false) ∧ Drawn w w' :=
  (l1In_no' h w).mono fun _ _ ⟨he, hw⟩ => ⟨he, hw ▸ Drawn.refl _⟩

set_option maxHeartbeats 400000 in
theorem l1Has_any (A : Option Addr) (n c : Nat) (xs : List Int) (x : Int) (w : World) (hs : SI w A n xs) (hn : n ≤ 1099511627776) :
    Calls Tryd.prog 84 #[.slice A n c, .int .i64 x] w fun e w' => e = .returned (.bool (hasB xs x)) ∧ Drawn w w' := by
  have hl := hs.1
  go_enter Tryd.func84, Tryd.ntmps84
  go_wp2
  go_loopw [5] (fun i wr => ∃ k : Nat, k ≤ n ∧ i = .int .i64 k ∧ Drawn w wr ∧ ∀ j, j < k → nth xs j ≠ x)
    (fun i _ => n - (intOf i).toNat)
  case atStart => exact ⟨0, Nat.zero_le _, rfl, Drawn.refl _, fun j hj => absurd hj (by omega)⟩
  case round =>
    obtain ⟨k, hk, rfl, hD, hall⟩ := hrel
    have HA := Lib.hid hall
    have hs := hD.si hs
    have HD := Lib.hid hD
    clear hall hD
    by_cases hlt : k < n
    · obtain ⟨b, o, rfl, hb, hc⟩ := hs.at_ (by omega)
      have hc1 := hc k hlt
      have HL := Lib.hid hl
      clear hc hs hl
      by_cases heq : nth xs k = x
      · have HE := Lib.hid heq
        rw [heq] at hc1
        clear heq
        go_wp2
        go_ret
        refine ⟨ret_bool ?_, HD.out⟩
        rw [← HE.out]
        exact (hasB_hit (by have := HL.out; omega)).symm
      · have HE := Lib.hid heq
        obtain ⟨y, hy⟩ : ∃ y, y = nth xs k := ⟨_, rfl⟩
        rw [← hy] at hc1 heq
        clear hy
        have hb : (y == x) = false := by simpa using heq
        clear heq
        go_wp2
        go_roundw
        case rel => exact ⟨k + 1, by omega, by go_num, HD.out, fun j hj => by
          rcases Nat.lt_or_ge j k with h | h
          · exact HA.out j h
          · obtain rfl : j = k := by omega
            exact HE.out⟩
        case measure => simp [intOf]; omega
    · have hkn : k = n := by omega
      subst hkn
      go_wp2
      go_ret
      refine ⟨ret_bool ?_, HD.out⟩
      exact (hasB_all (by rw [hl]; exact HA.out)).symm

set_option maxHeartbeats 800000 in
theorem specIsPerm_any (A : Option Addr) (n c : Nat) (xs : List Int) (w : World) (hs : SI w A n xs) (hnc : n ≤ c) (hn : n ≤ 1099511627776) :
    Calls Tryd.prog 69 #[.slice A n c] w fun e w' => e = .returned (.bool (isPermB xs)) ∧ Drawn w w' := by
  have hl := hs.1
  by_cases hsz : 1 ≤ n ∧ n ≤ 7
  · obtain ⟨hs1, hs7⟩ := hsz
    go_enter Tryd.func69, Tryd.ntmps69
    go_wp2_with (go_at_call 71; refine (l1In_yes (by omega) (by omega) _).mono ?_; rintro e w1 ⟨rfl, hD1⟩)
    go_loopw [3] (fun i wr => ∃ k : Nat, k ≤ n ∧ i = .int .i64 k ∧ Drawn w wr ∧ ∀ j, j < k → goodAt xs j)
      (fun i _ => n - (intOf i).toNat)
    case atStart => exact ⟨0, Nat.zero_le _, rfl, hD1, fun j hj => absurd hj (by omega)⟩
    case round =>
      obtain ⟨k, hk, rfl, hD, hall⟩ := hrel
      have HA := Lib.hid hall
      have HL := Lib.hid hl
      have HD := Lib.hid hD
      have hs := hD.si hs
      clear hall hl hD hD1
      by_cases hlt : k < n
      · obtain ⟨b, o, e1, hb, hc⟩ := hs.at_ (by omega)
        have hst := hs.take (k := k) (by omega)
        subst e1
        have hc1 := hc k hlt
        have HST := Lib.hid hst
        clear hc hs hst
        obtain ⟨x, hx⟩ : ∃ x, x = nth xs k := ⟨_, rfl⟩
        obtain ⟨ys, hy⟩ : ∃ ys, ys = xs.take k := ⟨_, rfl⟩
        rw [← hx] at hc1
        rw [← hy] at HST
        have HX := Lib.hid hx
        have HY := Lib.hid hy
        clear hx hy
        have hlI : (k : Int) < (n : Int) := by omega
        have hwr : IntKind.i64.wrap ((n : Int) - 1) = (n : Int) - 1 := IntWalk.i64_in _ (by omega)
        by_cases hr : 0 ≤ x ∧ x ≤ (n : Int) - 1
        · obtain ⟨hx0, hx1⟩ := hr
          go_wp2_with fail
          go_quiet ((first | (go_at_call 71; go_must (refine Calls.quiet_of (l1In_yes hx0 hx1 _))) | (go_at_call 84; exact Calls.quiet_of (l1Has_any _ _ _ ys _ _ HST.out (by omega)))))
          go_wp2
          · have hh : hasB ys x = true := by assumption
            go_ret
            refine ⟨ret_bool ?_, HD.out.drewN _⟩
            refine (isPermB_false ?_).symm
            intro hp
            obtain ⟨_, _, g3⟩ := (hp.2.2 k (by have := HL.out; omega))
            rw [← HX.out, ← HY.out, hh] at g3
            cases g3
          · have hh' : hasB ys x = false := by assumption
            have HG : goodAt xs k := by
              have e1 := HX.out
              have e2 := HY.out
              have e3 := HL.out
              refine ⟨by omega, by omega, by rw [← e1, ← e2]; exact hh'⟩
            go_roundw
            case rel => exact ⟨k + 1, by omega, by go_num, HD.out.drewN _, fun j hj => by
              rcases Nat.lt_or_ge j k with h | h
              · exact HA.out j h
              · obtain rfl : j = k := by omega
                exact HG⟩
            case measure => simp [intOf]; omega
        · go_wp2_with fail
          go_quiet ((first | (go_at_call 71; exact Calls.quiet_of (l1In_no (by omega) _))))
          go_wp2
          go_ret
          refine ⟨ret_bool ?_, HD.out.drewN _⟩
          refine (isPermB_false ?_).symm
          intro hp
          have := (hp.2.2 k (by have := HL.out; omega))
          obtain ⟨g1, g2, _⟩ := this
          rw [← HX.out] at g1 g2
          rw [HL.out] at g2
          exact hr ⟨g1, g2⟩
      · have hkn : k = n := by omega
        subst hkn
        go_wp2
        go_ret
        refine ⟨ret_bool ?_, HD.out⟩
        exact (isPermB_true ⟨by have := HL.out; omega, by have := HL.out; omega, by rw [HL.out]; exact HA.out⟩).symm
  · go_enter Tryd.func69, Tryd.ntmps69
    go_wp2_with (go_at_call 71; refine (l1In_no (by omega) _).mono ?_; rintro e w1 ⟨rfl, hD1⟩)
    go_ret
    refine ⟨ret_bool ?_, hD1⟩
    exact (isPermB_false (fun hp => hsz ⟨by have := hp.1; omega, by have := hp.2.1; omega⟩)).symm
theorem specIsPerm_is {A : Option Addr} {n : Nat} (c : Nat) {xs : List Int} {w : World} {b : Bool} (hb : isPermB xs = b) (hs : SI w A n xs) (hnc : n ≤ c) (hn : n ≤ 1099511627776) :
    Calls Tryd.prog 69 #[.slice A n c] w fun e w' => e = .returned (.bool b) ∧ Drawn w w' := by
  subst hb; exact specIsPerm_any A n c xs w hs hnc hn
theorem isPermB_P {xs : List Int} (h : isPermB xs = true) : isPermP xs := (isPermB_iff xs).1 h
theorem isPermP.range {xs : List Int} (h : isPermP xs) (k : Nat) (hk : k < xs.length) : 0 ≤ nth xs k ∧ nth xs k < (xs.length : Int) := by
  obtain ⟨h1, h2, _⟩ := h.2.2 k hk
  omega
end Go.Proofs.YtdiiaallklkomaaDoor

/-
  What a shape is: the tests of both sides. Conditions: the length is at most 2^40.
-/

namespace Go.Proofs.YtdiiaallklkomaaDoor
open Go.RowKit

/-- What a place of a shape may be at most: what stands before it, 16 at the first one. -/
def prevS (xs : List Int) : Nat → Int
  | 0 => 16
  | k + 1 => nth xs k
/-- Is place k of a list one that a shape may have. -/
def shapeAt (xs : List Int) (k : Nat) : Prop := 1 ≤ nth xs k ∧ nth xs k ≤ prevS xs k
instance (xs : List Int) (k : Nat) : Decidable (shapeAt xs k) := by unfold shapeAt; infer_instance
def isShapeP (xs : List Int) : Prop := xs.length ≤ 16 ∧ ∀ k, k < xs.length → shapeAt xs k
def isShapeB (xs : List Int) : Bool := decide (xs.length ≤ 16) && (List.range xs.length).all fun k => decide (shapeAt xs k)
theorem isShapeB_iff (xs : List Int) : isShapeB xs = true ↔ isShapeP xs := by simp [isShapeB, isShapeP]
theorem isShapeB_P {xs : List Int} (h : isShapeB xs = true) : isShapeP xs := (isShapeB_iff xs).1 h
theorem isShapeB_true {xs : List Int} (h : isShapeP xs) : isShapeB xs = true := (isShapeB_iff xs).2 h
theorem isShapeB_false {xs : List Int} (h : ¬ isShapeP xs) : isShapeB xs = false := by
  cases hb : isShapeB xs with
  | false => rfl
  | true => exact absurd (isShapeB_P hb) h
theorem prevS_le {xs : List Int} : ∀ {k : Nat}, (∀ j, j < k → shapeAt xs j) → prevS xs k ≤ 16
  | 0, _ => Int.le_refl _
  | k + 1, h => Int.le_trans (h k (by omega)).2 (prevS_le fun j hj => h j (by omega))

set_option maxHeartbeats 800000 in
theorem specIsShape_any (A : Option Addr) (n c : Nat) (xs : List Int) (w : World) (hs : SI w A n xs) (hn : n ≤ 1099511627776) :
    Calls Tryd.prog 64 #[.slice A n c] w fun e w' => e = .returned (.bool (isShapeB xs)) ∧ Drawn w w' := by
  have HL := Lib.hid hs.1
  by_cases h16 : n ≤ 16
  · go_enter Tryd.func64, Tryd.ntmps64
    go_wp2
    go_loopw [3] (fun i wr => ∃ k : Nat, k ≤ n ∧ i = .int .i64 k ∧ Drawn w wr ∧ ∀ j, j < k → shapeAt xs j)
      (fun i _ => n - (intOf i).toNat)
    case atStart => exact ⟨0, Nat.zero_le _, rfl, Drawn.refl _, fun j hj => absurd hj (by omega)⟩
    case round =>
      obtain ⟨k, hk, rfl, hD, hall⟩ := hrel
      have HA := Lib.hid hall
      have HD := Lib.hid hD
      have hs := hD.si hs
      clear hall hD
      by_cases hlt : k < n
      · obtain ⟨b, o, e1, hb, hc⟩ := hs.at_ (by omega)
        subst e1
        have hc1 := hc k hlt
        obtain ⟨x, hx⟩ : ∃ x, x = nth xs k := ⟨_, rfl⟩
        rw [← hx] at hc1
        have HX := Lib.hid hx
        have hlI : (k : Int) < (n : Int) := by omega
        by_cases hr : 1 ≤ x ∧ x ≤ 16
        · obtain ⟨hx0, hx1⟩ := hr
          cases k with
          | zero =>
            have HG : Hid (shapeAt xs 0) := Lib.hid (show 1 ≤ nth xs 0 ∧ nth xs 0 ≤ 16 by omega)
            rw [Nat.add_zero] at hc1
            clear hc hs hx
            go_wp2_with fail
            go_quiet ((go_at_call 71; exact Calls.quiet_of (l1In_yes hx0 hx1 _)))
            go_wp2
            go_roundw
            case rel => exact ⟨1, by omega, by go_num, HD.out.drewN _, fun j hj => by rw [show j = 0 from Nat.lt_one_iff.1 hj]; exact HG.out⟩
            case measure => simp [intOf]; omega
          | succ k =>
            have hc0 := hc k (by omega)
            obtain ⟨y, hy⟩ : ∃ y, y = nth xs k := ⟨_, rfl⟩
            rw [← hy] at hc0
            have HY := Lib.hid hy
            have hwk : IntKind.i64.wrap (((k + 1 : Nat) : Int) - 1) = (k : Int) := by rw [show ((k + 1 : Nat) : Int) - 1 = (k : Int) by omega]; exact IntWalk.i64_in _ (by omega)
            have hkI : (k : Int) < (n : Int) := by omega
            have hk0 : (0 : Int) < ((k + 1 : Nat) : Int) := by omega
            clear hc hs hx hy
            by_cases hyx : y < x
            · have HF := Lib.hid (isShapeB_false (xs := xs) (fun h => by
                have := (h.2 (k + 1) (by have := HL.out; omega)).2
                have e1 : prevS xs (k + 1) = nth xs k := rfl
                have := HX.out; have := HY.out
                omega))
              go_wp2_with fail
              go_quiet ((go_at_call 71; exact Calls.quiet_of (l1In_yes hx0 hx1 _)))
              go_wp2
              go_ret
              exact ⟨ret_bool HF.out.symm, HD.out.drewN _⟩
            · have HG : Hid (shapeAt xs (k + 1)) := Lib.hid (by
                have e1 : prevS xs (k + 1) = nth xs k := rfl
                have := HX.out; have := HY.out
                unfold shapeAt
                omega)
              go_wp2_with fail
              go_quiet ((go_at_call 71; exact Calls.quiet_of (l1In_yes hx0 hx1 _)))
              go_wp2
              go_roundw
              case rel => exact ⟨k + 1 + 1, by omega, by go_num, HD.out.drewN _, fun j hj => by
                rcases Nat.lt_or_ge j (k + 1) with h | h
                · exact HA.out j h
                · obtain rfl : j = k + 1 := by omega
                  exact HG.out⟩
              case measure => simp [intOf]; omega
        · have HF := Lib.hid (isShapeB_false (xs := xs) (fun h => by
            have h1 := h.2 k (by have := HL.out; omega)
            have h2 := prevS_le HA.out
            unfold shapeAt at h1
            have := HX.out
            omega))
          clear hc hs hx
          go_wp2_with fail
          go_quiet ((go_at_call 71; exact Calls.quiet_of (l1In_no (by omega) _)))
          go_wp2
          go_ret
          exact ⟨ret_bool HF.out.symm, HD.out.drewN _⟩
      · have hkn : k = n := by omega
        subst hkn
        go_wp2
        go_ret
        exact ⟨ret_bool (isShapeB_true ⟨by have := HL.out; omega, by rw [HL.out]; exact HA.out⟩).symm, HD.out⟩
  · have HF := Lib.hid (isShapeB_false (xs := xs) (fun h => by have := h.1; have := HL.out; omega))
    have h16' : (16 : Int) < (n : Int) := by omega
    go_enter Tryd.func64, Tryd.ntmps64
    go_wp2
    go_ret
    exact ⟨ret_bool HF.out.symm, Drawn.refl _⟩
set_option maxHeartbeats 800000 in
theorem implIsShape_any (A : Option Addr) (n c : Nat) (xs : List Int) (w : World) (hs : SI w A n xs) (hn : n ≤ 1099511627776) :
    Calls Tryd.prog 66 #[.slice A n c] w fun e w' => e = .returned (.bool (isShapeB xs)) ∧ Drawn w w' := by
  have HL := Lib.hid hs.1
  by_cases h16 : n ≤ 16
  · go_enter Tryd.func66, Tryd.ntmps66
    go_wp2
    go_loopw [3, 11] (fun m i wr => ∃ k : Nat, k ≤ n ∧ i = .int .i64 k ∧ m = .int .i64 (prevS xs k) ∧ Drawn w wr ∧ ∀ j, j < k → shapeAt xs j)
      (fun _ i _ => n - (intOf i).toNat)
    case atStart => exact ⟨0, Nat.zero_le _, rfl, rfl, Drawn.refl _, fun j hj => absurd hj (by omega)⟩
    case round =>
      obtain ⟨k, hk, rfl, rfl, hD, hall⟩ := hrel
      have HA := Lib.hid hall
      have HD := Lib.hid hD
      have hs := hD.si hs
      clear hall hD
      by_cases hlt : k < n
      · obtain ⟨b, o, e1, hb, hc⟩ := hs.at_ (by omega)
        subst e1
        have hc1 := hc k hlt
        obtain ⟨x, hx⟩ : ∃ x, x = nth xs k := ⟨_, rfl⟩
        rw [← hx] at hc1
        have HX := Lib.hid hx
        obtain ⟨y, hy⟩ : ∃ y, y = prevS xs k := ⟨_, rfl⟩
        rw [← hy]
        have HY := Lib.hid hy
        have hlI : (k : Int) < (n : Int) := by omega
        clear hc hs hx hy
        by_cases hg : 1 ≤ x ∧ x ≤ y
        · obtain ⟨hg1, hg2⟩ := hg
          have HG : Hid (shapeAt xs k) := Lib.hid (by have := HX.out; have := HY.out; unfold shapeAt; omega)
          go_wp2
          go_roundw
          case rel => exact ⟨k + 1, by omega, by go_num, by rw [HX.out]; rfl, HD.out, fun j hj => by
            rcases Nat.lt_or_ge j k with h | h
            · exact HA.out j h
            · obtain rfl : j = k := by omega
              exact HG.out⟩
          case measure => simp [intOf]; omega
        · have HF := Lib.hid (isShapeB_false (xs := xs) (fun h => by
            have h1 := h.2 k (by have := HL.out; omega)
            unfold shapeAt at h1
            have := HX.out; have := HY.out
            omega))
          by_cases hx1 : x < 1
          · go_wp2
            go_ret
            exact ⟨ret_bool HF.out.symm, HD.out⟩
          · have hyx : y < x := by omega
            clear hg
            go_wp2
            go_ret
            exact ⟨ret_bool HF.out.symm, HD.out⟩
      · have hkn : k = n := by omega
        subst hkn
        go_wp2
        go_ret
        exact ⟨ret_bool (isShapeB_true ⟨by have := HL.out; omega, by rw [HL.out]; exact HA.out⟩).symm, HD.out⟩
  · have HF := Lib.hid (isShapeB_false (xs := xs) (fun h => by have := h.1; have := HL.out; omega))
    have h16' : (16 : Int) < (n : Int) := by omega
    go_enter Tryd.func66, Tryd.ntmps66
    go_wp2
    go_ret
    exact ⟨ret_bool HF.out.symm, Drawn.refl _⟩
end Go.Proofs.YtdiiaallklkomaaDoor

/-
  Contracts of the specification's functions that build lists: identity, longest. Conditions: lengths below 2^40.
-/


namespace Go.Proofs.YtdiiaallklkomaaDoor
open Go.RowKit

def idL (n : Nat) : List Int := (List.range n).map fun (j : Nat) => (j : Int)
theorem idL_len (n : Nat) : (idL n).length = n := by simp [idL]
theorem idL_succ (n : Nat) : idL (n + 1) = idL n ++ [(n : Int)] := by simp [idL, List.range_succ]
/-- n-1, n-2, .., k numbers. -/
def downL (n k : Nat) : List Int := (List.range k).map fun (j : Nat) => (n : Int) - 1 - (j : Int)
theorem downL_len (n k : Nat) : (downL n k).length = k := by simp [downL]
theorem downL_succ (n k : Nat) : downL n (k + 1) = downL n k ++ [(n : Int) - 1 - (k : Int)] := by simp [downL, List.range_succ]

/-- What IdentityPerm answers. -/
def idPerm (a : Int) : List Int := if 1 ≤ a ∧ a ≤ 7 then idL a.toNat else []
theorem idPerm_small (a : Int) : (idPerm a).length ≤ 1099511627775 := by
  unfold idPerm; split
  · rw [idL_len]; omega
  · simp
def longPerm (a : Int) : List Int := if 1 ≤ a ∧ a ≤ 7 then downL a.toNat a.toNat else []
theorem longPerm_small (a : Int) : (longPerm a).length ≤ 1099511627775 := by
  unfold longPerm; split
  · rw [downL_len]; omega
  · simp
end Go.Proofs.YtdiiaallklkomaaDoor

/-
  Contracts of the specification's functions: products, inverses. Conditions: lengths below 2^40.
-/

namespace Go.Proofs.YtdiiaallklkomaaDoor
open Go.RowKit

/-- The first k numbers of a product. -/
def compL (u v : List Int) (k : Nat) : List Int := (List.range k).map fun i => nth u (nth v i).toNat
theorem compL_len (u v : List Int) (k : Nat) : (compL u v k).length = k := by simp [compL]
theorem compL_succ (u v : List Int) (k : Nat) : compL u v (k + 1) = compL u v k ++ [nth u (nth v k).toNat] := by simp [compL, List.range_succ]

/-- What ComposePerms answers. -/
def compPerm (us vs : List Int) : List Int := if isPermB us = true ∧ isPermB vs = true ∧ us.length = vs.length then compL us vs vs.length else []

theorem Fresh.nil_ret {w w' : World} (h : Below w.heap.size w w') : Fresh w w' (.returned (.slice none 0 0)) [] := ⟨none, 0, 0, rfl, Own.nil _ _ _, h⟩
theorem Fresh.after {w w1 w2 : World} {e : Ending} {ys : List Int} (hb : Below w.heap.size w w1) (h : Fresh w1 w2 e ys) : Fresh w w2 e ys := by
  obtain ⟨A, n, c, he, ho, hb2⟩ := h
  exact ⟨A, n, c, he, ho.wide hb.size (Nat.le_refl _), hb.trans (hb2.mono hb.size)⟩

theorem compPerm_no {us vs : List Int} (h : isPermB us = false ∨ isPermB vs = false ∨ us.length ≠ vs.length) : compPerm us vs = [] := by
  unfold compPerm
  rw [if_neg]
  rintro ⟨h1, h2, h3⟩
  rcases h with h | h | h
  · rw [h1] at h; cases h
  · rw [h2] at h; cases h
  · exact h h3
theorem compPerm_yes {us vs : List Int} (h1 : isPermB us = true) (h2 : isPermB vs = true) (h3 : us.length = vs.length) : compPerm us vs = compL us vs vs.length := by
  unfold compPerm
  rw [if_pos ⟨h1, h2, h3⟩]
theorem isPermB_small {xs : List Int} (h : isPermB xs = true) : xs.length ≤ 1099511627775 := by have := (isPermB_P h).2.1; omega
theorem compPerm_small (us vs : List Int) : (compPerm us vs).length ≤ 1099511627775 := by
  unfold compPerm
  split
  · rename_i h
    rw [compL_len]; exact isPermB_small h.2.1
  · simp
/-- The inverse, k places filled. -/
def invM (xs : List Int) (n k : Nat) : List Int := (List.range k).foldl (fun acc i => acc.set (nth xs i).toNat (i : Int)) (List.replicate n 0)
theorem invM_succ (xs : List Int) (n k : Nat) : invM xs n (k + 1) = (invM xs n k).set (nth xs k).toNat (k : Int) := by simp [invM, List.range_succ]
theorem invM_len (xs : List Int) (n k : Nat) : (invM xs n k).length = n := by
  induction k with
  | zero => simp [invM]
  | succ k ih => rw [invM_succ]; simpa using ih

/-- What InversePerm answers. -/
def invPerm (xs : List Int) : List Int := if isPermB xs = true then invM xs xs.length xs.length else []
theorem invPerm_no {xs : List Int} (h : isPermB xs = false) : invPerm xs = [] := by unfold invPerm; rw [if_neg (by rw [h]; decide)]
theorem invPerm_yes {xs : List Int} (h : isPermB xs = true) : invPerm xs = invM xs xs.length xs.length := by unfold invPerm; rw [if_pos h]
theorem invPerm_small (xs : List Int) : (invPerm xs).length ≤ 1099511627775 := by
  unfold invPerm
  split
  · rename_i h
    rw [invM_len]; exact isPermB_small h
  · simp
end Go.Proofs.YtdiiaallklkomaaDoor

/-
  The program's own test for permutations, as arrays: contracts. Conditions: the length is at most 2^40.
-/

namespace Go.Proofs.YtdiiaallklkomaaDoor
open Go.RowKit

/-- An array of integers as a value. -/
abbrev arrC (l : List Int) : Array Value := #[.int .i64 (nth l 0), .int .i64 (nth l 1), .int .i64 (nth l 2), .int .i64 (nth l 3), .int .i64 (nth l 4), .int .i64 (nth l 5), .int .i64 (nth l 6)]
abbrev arr (l : List Int) : Value := .agg (arrC l)

theorem isPermSize_any (a : Int) (w : World) :
    Calls Tryd.prog 101 #[.int .i64 a] w fun e w' => e = .returned (.bool (decide (1 ≤ a) && decide (a ≤ 7))) ∧ w = w' := by
  by_cases h1 : 1 ≤ a
  · by_cases h2 : a ≤ 7
    · go_enter Tryd.func101, Tryd.ntmps101
      go_wp2
      go_ret
      exact ⟨ret_bool (by simp [h1, h2]), rfl⟩
    · go_enter Tryd.func101, Tryd.ntmps101
      go_wp2
      go_ret
      exact ⟨ret_bool (by simp [h2]), rfl⟩
  · have h1' : a < 1 := by omega
    go_enter Tryd.func101, Tryd.ntmps101
    go_wp2
    go_ret
    exact ⟨ret_bool (by simp; intro; omega), rfl⟩
theorem isPermSize_yes {a : Int} (h : 1 ≤ a) (h' : a ≤ 7) (w : World) :
    Calls Tryd.prog 101 #[.int .i64 a] w fun e w' => e = .returned (.bool true) ∧ w = w' := by
  have := isPermSize_any a w
  simpa [h, h'] using this
theorem isPermSize_no {a : Int} (h : a < 1 ∨ 7 < a) (w : World) :
    Calls Tryd.prog 101 #[.int .i64 a] w fun e w' => e = .returned (.bool false) ∧ w = w' := by
  have e : (decide (1 ≤ a) && decide (a ≤ 7)) = false := by simp; omega
  have := isPermSize_any a w
  rwa [e] at this

set_option maxHeartbeats 1000000 in
theorem identityArray_any (w : World) :
    Calls Tryd.prog 102 #[] w fun e w' => e = .returned (.agg #[.int .i64 0, .int .i64 1, .int .i64 2, .int .i64 3, .int .i64 4, .int .i64 5, .int .i64 6]) ∧ Below w.heap.size w w' := by
  go_enter Tryd.func102, Tryd.ntmps102
  go_wp2
  go_rounds 8
  go_returns
  exact ⟨rfl, by go_grown⟩

/-- The array of a permutation, k places filled: behind them each number stands at its place. -/
def fillA (xs : List Int) (k : Nat) : List Int := (List.range 7).map fun (j : Nat) => if j < k then nth xs j else (j : Int)
theorem fillA_len (xs : List Int) (k : Nat) : (fillA xs k).length = 7 := by simp [fillA]
theorem fillA_nth (xs : List Int) (k j : Nat) (hj : j < 7) : nth (fillA xs k) j = if j < k then nth xs j else (j : Int) := by
  rw [nth_get (by rw [fillA_len]; exact hj)]
  simp [fillA]
/-- Which numbers are among the first k. -/
def seenC (xs : List Int) (k : Nat) : Array Value := ((List.range 7).map fun (v : Nat) => Value.bool (hasB (xs.take k) (v : Int))).toArray
theorem lt7 {k : Nat} (h : k < 7) : k = 0 ∨ k = 1 ∨ k = 2 ∨ k = 3 ∨ k = 4 ∨ k = 5 ∨ k = 6 := by omega
theorem arrC_get (l : List Int) (k : Nat) (h : k < 7) : (arrC l)[k]? = some (.int .i64 (nth l k)) := by
  rcases lt7 h with rfl | rfl | rfl | rfl | rfl | rfl | rfl <;> rfl
theorem arrC_set (l : List Int) (k : Nat) (h : k < 7) (x : Int) (hl : l.length = 7) : (arrC l).setIfInBounds k (.int .i64 x) = arrC (l.set k x) := by
  match l, hl with
  | [a, b, c, d, e, f, g], _ =>
    rcases lt7 h with rfl | rfl | rfl | rfl | rfl | rfl | rfl <;> rfl
theorem arrC_fill (xs : List Int) (k : Nat) (h : k < 7) : (arrC (fillA xs k)).setIfInBounds k (.int .i64 (nth xs k)) = arrC (fillA xs (k + 1)) := by
  rw [arrC_set _ k h _ (fillA_len _ _)]
  congr 1
  apply List.ext_getElem (by simp [fillA])
  intro j h1 h2
  rw [List.getElem_set]
  simp only [fillA, List.getElem_map, List.getElem_range]
  by_cases e : k = j
  · subst e; simp
  · rw [if_neg e]
    by_cases h3 : j < k
    · rw [if_pos h3, if_pos (by omega)]
    · rw [if_neg h3, if_neg (by omega)]
theorem seenC_zero (xs : List Int) : seenC xs 0 = #[.bool false, .bool false, .bool false, .bool false, .bool false, .bool false, .bool false] := by
  simp [seenC, hasB, List.range_succ]
theorem seenC_get (xs : List Int) (k : Nat) (x : Int) (h0 : 0 ≤ x) (h7 : x < 7) : (seenC xs k)[x.toNat]? = some (.bool (hasB (xs.take k) x)) := by
  have e : ((x.toNat : Nat) : Int) = x := by omega
  simp only [seenC, List.getElem?_toArray, List.getElem?_map]
  rw [List.getElem?_range (by omega)]
  simp [e]
theorem seenC_set (xs : List Int) (k : Nat) (hk : k < xs.length) (h0 : 0 ≤ nth xs k) : (seenC xs k).setIfInBounds (nth xs k).toNat (.bool true) = seenC xs (k + 1) := by
  apply Array.ext_getElem?
  intro j
  rw [Array.getElem?_setIfInBounds]
  by_cases e : (nth xs k).toNat = j
  · rw [if_pos e]
    by_cases hj : j < 7
    · rw [if_pos (by simp [seenC]; omega)]
      simp only [seenC, List.getElem?_toArray, List.getElem?_map]
      rw [List.getElem?_range hj, take_nth hk]
      have : ((j : Nat) : Int) = nth xs k := by omega
      simp [hasB, this]
    · rw [if_neg (by simp [seenC]; omega)]
      symm
      apply Array.getElem?_eq_none
      simp [seenC]; omega
  · rw [if_neg e]
    by_cases hj : j < 7
    · simp only [seenC, List.getElem?_toArray, List.getElem?_map]
      rw [List.getElem?_range hj, take_nth hk]
      have : ¬ ((j : Nat) : Int) = nth xs k := by omega
      simp [hasB, this]
    · rw [Array.getElem?_eq_none (by simp [seenC]; omega), Array.getElem?_eq_none (by simp [seenC]; omega)]

abbrev zeroC : Array Value := #[.int .i64 0, .int .i64 0, .int .i64 0, .int .i64 0, .int .i64 0, .int .i64 0, .int .i64 0]

theorem Tryd.infoArr : (Tryd.prog.info? 113).map (·.size) = some 7 := by kernel_rfl
theorem Tryd.undArr : Tryd.prog.underlying 113 = some (.array 7 3) := Tryd.underlying113
theorem zeroC_one : zeroC.all (·.oneCell') = true := by simp [Value.oneCell']
theorem arrC_one (l : List Int) : (arrC l).all (·.oneCell') = true := by simp [Value.oneCell']
set_option maxHeartbeats 2000000 in
theorem arrayOf_any (A : Option Addr) (n c : Nat) (xs : List Int) (w : World) (hs : SI w A n xs) (hn : n ≤ 1099511627776) :
    Calls Tryd.prog 86 #[.slice A n c] w fun e w' => (isPermB xs = true ∧ e = .returned (.tuple #[arr (fillA xs n), .bool true]) ∨ isPermB xs = false ∧ e = .returned (.tuple #[.agg zeroC, .bool false])) ∧ Below w.heap.size w w' := by
  have hl := hs.1
  by_cases hsz : 1 ≤ n ∧ n ≤ 7
  · obtain ⟨hs1, hs7⟩ := hsz
    go_enter Tryd.func86, Tryd.ntmps86
    go_wp2_with (first | (go_at_call 101; refine (isPermSize_yes (by omega) (by omega) _).mono ?_; rintro e w1 ⟨rfl, rfl⟩) | (go_at_call 102; refine (identityArray_any _).mono ?_; rintro e w2 ⟨rfl, hb2⟩))
    have hbR : Blk w2 w.heap.size 113 zeroC := ((Blk.new w 113 zeroC).below hb2 (by simp))
    have hbw : Below w.heap.size w w2 := ((Below.refl _ _).alloc (Nat.le_refl _) _).trans (hb2.mono (by simp))
    have hb0 := Blk.new w2 113 (arrC (fillA xs 0))
    have hb1 := Blk.new (w2.alloc (.cells #[.int .i64 0, .int .i64 1, .int .i64 2, .int .i64 3, .int .i64 4, .int .i64 5, .int .i64 6] 113)) 131 (seenC xs 0)
    rw [show (w2.alloc (.cells #[.int .i64 0, .int .i64 1, .int .i64 2, .int .i64 3, .int .i64 4, .int .i64 5, .int .i64 6] 113)).heap.size = w2.heap.size + 1 from by simp, seenC_zero] at hb1
    have HW2 : Hid (w.heap.size + 1 ≤ w2.heap.size) := Lib.hid (by have := hb2.size; simpa using this)
    clear hb2
    go_loopw [16] (fun i wr => ∃ k : Nat, k ≤ n ∧ i = .int .i64 k ∧ Blk wr w.heap.size 113 zeroC ∧ Blk wr w2.heap.size 113 (arrC (fillA xs k)) ∧ Blk wr (w2.heap.size + 1) 131 (seenC xs k) ∧ Below w.heap.size w wr ∧ ∀ j, j < k → goodAt xs j)
      (fun i _ => n - (intOf i).toNat)
    case atStart =>
      refine ⟨0, Nat.zero_le _, rfl, (hbR.alloc _).alloc _, ?_, ?_, ?_, fun j hj => absurd hj (by omega)⟩
      · exact hb0.alloc _
      · rw [seenC_zero]; exact hb1
      · exact (hbw.alloc hbw.size _).alloc (by have := hbw.size; simp; omega) _
    case round =>
      obtain ⟨k, hk, rfl, hR, hG, hS, hB, hall⟩ := hrel
      have HA := Lib.hid hall
      have HL := Lib.hid hl
      have HB := Lib.hid hB
      have HR := Lib.hid hR
      have HG := Lib.hid hG
      have HS := Lib.hid hS
      clear hall hl hB hR hbw hb0 hb1 hbR hG hS
      by_cases hlt : k < n
      · obtain ⟨b, o, e1, hb, hc⟩ := hs.at_ (by omega)
        have hc1 : wr.cell? ⟨b, o + k, none⟩ = some (.int .i64 (nth xs k)) := (HB.out.cell (p := ⟨b, o + k, none⟩) hb).trans (hc k hlt)
        subst e1
        obtain ⟨x, hx⟩ : ∃ x, x = nth xs k := ⟨_, rfl⟩
        rw [← hx] at hc1
        have HX := Lib.hid hx
        clear hc hs hx
        by_cases hx0 : x < 0
        · have hf : isPermB xs = false := by
            refine isPermB_false fun hp => ?_
            obtain ⟨g1, _, _⟩ := (hp.2.2 k (by have := HL.out; omega))
            rw [← HX.out] at g1; omega
          have HF := Lib.hid hf
          clear hf
          go_wp2_with (refine wpList_store_blk rfl 113 (.tmp 2) (.tmp 34) rfl w.heap.size zeroC rfl rfl 113 zeroC HR.out Tryd.infoArr rfl zeroC_one ?_; intro w3 hR3 hg3)
          refine bodyPost_ret (results_blk_tmp Tryd.results86 _ _ _ _ _ 7 3 rfl hR3 Tryd.undArr Tryd.infoArr) rfl ?_
          exact ⟨.inr ⟨HF.out, rfl⟩, HB.out.grown hg3 HB.out.size (by rintro _ ⟨⟩; exact Nat.le_refl _)⟩
        · by_cases hxn : (n : Int) ≤ x
          · have hf : isPermB xs = false := by
              refine isPermB_false fun hp => ?_
              obtain ⟨_, g1, _⟩ := (hp.2.2 k (by have := HL.out; omega))
              rw [← HX.out, HL.out] at g1; omega
            have HF := Lib.hid hf
            clear hf
            go_wp2_with (refine wpList_store_blk rfl 113 (.tmp 2) (.tmp 34) rfl w.heap.size zeroC rfl rfl 113 zeroC HR.out Tryd.infoArr rfl zeroC_one ?_; intro w3 hR3 hg3)
            refine bodyPost_ret (results_blk_tmp Tryd.results86 _ _ _ _ _ 7 3 rfl hR3 Tryd.undArr Tryd.infoArr) rfl ?_
            exact ⟨.inr ⟨HF.out, rfl⟩, HB.out.grown hg3 HB.out.size (by rintro _ ⟨⟩; exact Nat.le_refl _)⟩
          · have hx0' : 0 ≤ x := by omega
            have hx7 : x < 7 := by omega
            have hcS : wr.cell? ⟨w2.heap.size + 1, x.toNat, none⟩ = some (.bool (hasB (xs.take k) x)) := (HS.out.cell _).trans (seenC_get xs k x hx0' hx7)
            have hfS := HS.out.frozen x.toNat
            cases hh : hasB (xs.take k) x with
            | true =>
              rw [hh] at hcS
              have hf : isPermB xs = false := by
                refine isPermB_false fun hp => ?_
                obtain ⟨_, _, g3⟩ := (hp.2.2 k (by have := HL.out; omega))
                rw [← HX.out, hh] at g3; cases g3
              have HF := Lib.hid hf
              clear hf hh
              go_wp2_with (refine wpList_store_blk rfl 113 (.tmp 2) (.tmp 34) rfl w.heap.size zeroC rfl rfl 113 zeroC HR.out Tryd.infoArr rfl zeroC_one ?_; intro w3 hR3 hg3)
              refine bodyPost_ret (results_blk_tmp Tryd.results86 _ _ _ _ _ 7 3 rfl hR3 Tryd.undArr Tryd.infoArr) rfl ?_
              exact ⟨.inr ⟨HF.out, rfl⟩, HB.out.grown hg3 HB.out.size (by rintro _ ⟨⟩; exact Nat.le_refl _)⟩
            | false =>
              rw [hh] at hcS
              have HGd : Hid (goodAt xs k) := Lib.hid (by
                have e1 := HX.out
                have e3 := HL.out
                exact ⟨by omega, by omega, by rw [← e1]; exact hh⟩)
              clear hh
              have hS' := (HS.out.set_ x.toNat (.bool true))
              have hG' := ((HG.out.far (p := ⟨w2.heap.size + 1, x.toNat, none⟩) (by show w2.heap.size ≠ w2.heap.size + 1; omega) (.bool true)).set_ k (.int .i64 x))
              have hR' := ((HR.out.far (p := ⟨w2.heap.size + 1, x.toNat, none⟩) (by have := HW2.out; show w.heap.size ≠ w2.heap.size + 1; omega) (.bool true)).far (p := ⟨w2.heap.size, k, none⟩) (by have := HW2.out; show w.heap.size ≠ w2.heap.size; omega) (.int .i64 x))
              have HS2 := Lib.hid (hS'.far (p := ⟨w2.heap.size, k, none⟩) (by show w2.heap.size + 1 ≠ w2.heap.size; omega) (.int .i64 x))
              have HG2 := Lib.hid hG'
              have HR2 := Lib.hid hR'
              have HB2 := Lib.hid ((HB.out.setCell (p := ⟨w2.heap.size + 1, x.toNat, none⟩) (by have := HW2.out; show w.heap.size ≤ w2.heap.size + 1; omega) (.bool true)).setCell (p := ⟨w2.heap.size, k, none⟩) (by have := HW2.out; show w.heap.size ≤ w2.heap.size; omega) (.int .i64 x))
              have hcG : wr.cell? ⟨w2.heap.size, k, none⟩ = some (.int .i64 (nth (fillA xs k) k)) := (HG.out.cell _).trans (arrC_get _ k (by omega))
              have hfG := HG.out.frozen k
              clear hS' hG' hR'
              go_wp2
              go_roundw
              case rel =>
                have e1 := HX.out
                have e3 := HL.out
                refine ⟨k + 1, by omega, by go_num, HR2.out, ?_, ?_, HB2.out, fun j hj => ?_⟩
                · have := HG2.out
                  rw [e1, arrC_fill xs k (by omega), ← e1] at this
                  exact this
                · have := HS2.out
                  rw [e1, seenC_set xs k (by omega) (by omega), ← e1] at this
                  exact this
                · rcases Nat.lt_or_ge j k with h | h
                  · exact HA.out j h
                  · obtain rfl : j = k := by omega
                    exact HGd.out
              case measure => simp [intOf]; omega
      · have hkn : k = n := by omega
        subst hkn
        have hp : isPermB xs = true := isPermB_true ⟨by have := HL.out; omega, by have := HL.out; omega, by rw [HL.out]; exact HA.out⟩
        have HP := Lib.hid hp
        clear hp
        go_wp2_with (first | (refine wpList_load_blk rfl 113 (.tmp 4) rfl w2.heap.size rfl 113 (arrC (fillA xs k)) 7 3 HG.out Tryd.undArr Tryd.infoArr ?_) | (refine wpList_store_blk rfl 113 (.tmp 2) (.tmp 41) rfl w.heap.size (arrC (fillA xs k)) rfl rfl 113 zeroC HR.out Tryd.infoArr rfl (arrC_one _) ?_; intro w3 hR3 hg3))
        refine bodyPost_ret (results_blk_tmp Tryd.results86 _ _ _ _ _ 7 3 rfl hR3 Tryd.undArr Tryd.infoArr) rfl ?_
        exact ⟨.inl ⟨HP.out, rfl⟩, HB.out.grown hg3 HB.out.size (by rintro _ ⟨⟩; exact Nat.le_refl _)⟩
  · go_enter Tryd.func86, Tryd.ntmps86
    go_wp2_with (go_at_call 101; refine (isPermSize_no (by omega) _).mono ?_; rintro e w1 ⟨rfl, rfl⟩)
    go_returns
    refine ⟨.inr ⟨isPermB_false (fun hp => hsz ⟨by have := hp.1; omega, by have := hp.2.1; omega⟩), rfl⟩, by go_grown⟩

theorem arrayOf_yes {A : Option Addr} {n : Nat} (c : Nat) {xs : List Int} {w : World} (hs : SI w A n xs) (hn : n ≤ 1099511627776) (hp : isPermB xs = true) :
    Calls Tryd.prog 86 #[.slice A n c] w fun e w' => e = .returned (.tuple #[arr (fillA xs n), .bool true]) ∧ Below w.heap.size w w' := by
  refine (arrayOf_any A n c xs w hs hn).mono fun e w' ⟨he, hb⟩ => ⟨?_, hb⟩
  rcases he with ⟨_, he⟩ | ⟨h, _⟩
  · exact he
  · rw [hp] at h; cases h
theorem arrayOf_no {A : Option Addr} {n : Nat} (c : Nat) {xs : List Int} {w : World} (hs : SI w A n xs) (hn : n ≤ 1099511627776) (hp : isPermB xs = false) :
    Calls Tryd.prog 86 #[.slice A n c] w fun e w' => e = .returned (.tuple #[.agg zeroC, .bool false]) ∧ Below w.heap.size w w' := by
  refine (arrayOf_any A n c xs w hs hn).mono fun e w' ⟨he, hb⟩ => ⟨?_, hb⟩
  rcases he with ⟨h, _⟩ | ⟨_, he⟩
  · rw [hp] at h; cases h
  · exact he

set_option maxHeartbeats 1000000 in
theorem implIsPerm_any (A : Option Addr) (n c : Nat) (xs : List Int) (w : World) (hs : SI w A n xs) (hn : n ≤ 1099511627776) :
    Calls Tryd.prog 72 #[.slice A n c] w fun e w' => e = .returned (.bool (isPermB xs)) ∧ Below w.heap.size w w' := by
  cases hp : isPermB xs with
  | true =>
    have HP := Lib.hid hp
    clear hp
    go_enter Tryd.func72, Tryd.ntmps72
    go_wp2_with (go_at_call 86; refine (arrayOf_yes c hs hn HP.out).mono ?_; rintro e w1 ⟨rfl, hb1⟩)
    go_ret
    exact ⟨rfl, hb1.alloc hb1.size _⟩
  | false =>
    have HP := Lib.hid hp
    clear hp
    go_enter Tryd.func72, Tryd.ntmps72
    go_wp2_with (go_at_call 86; refine (arrayOf_no c hs hn HP.out).mono ?_; rintro e w1 ⟨rfl, hb1⟩)
    go_ret
    exact ⟨rfl, hb1.alloc hb1.size _⟩
end Go.Proofs.YtdiiaallklkomaaDoor

/-
  Contracts of the program's functions: copies of arrays, identity, longest, products, inverses. Conditions: lengths below 2^40.
-/




namespace Go.Proofs.YtdiiaallklkomaaDoor
open Go.RowKit

set_option maxHeartbeats 400000 in
theorem clone_any (A : Option Addr) (n c : Nat) (xs : List Int) (w : World) (hs : SI w A n xs) (hA : A = none → n = 0 ∧ c = 0) (hn : n ≤ 1099511627776) :
    Calls Tryd.prog 103 #[.slice A n c] w fun e w' => Fresh w w' e xs := by
  have hl := hs.1
  cases A with
  | none =>
    obtain ⟨rfl, rfl⟩ := hA rfl
    have hx : xs = [] := List.eq_nil_of_length_eq_zero hl
    subst hx
    have hnil := fun wx => Lib.run_eql_slice_nil (P := Tryd.prog) wx 24 3 none 0 0 0 0 Tryd.underlying24
    go_enter Tryd.func103, Tryd.ntmps103
    go_wp2
    go_ret
    exact Fresh.nil_ret (Below.refl _ _)
  | some a =>
    have hnil := fun wx => Lib.run_eql_slice_nil (P := Tryd.prog) wx 24 3 (some a) n c 0 0 Tryd.underlying24
    have HL := Lib.hid hl
    clear hl
    go_enter Tryd.func103, Tryd.ntmps103
    go_wp2_with (at_builtin; refine wpList_append_all rfl (.tmp 5) (.tmp 6) rfl w.heap.size (some ⟨w.heap.size, 0, none⟩) 0 0 [] (some a) n c xs rfl rfl ((Own.empty w).wide (Nat.le_refl _) (by simp)) (hs.alloc _) (by simp) (by omega) hn ?_; intro A' c' w1 ho1 _ hb1)
    go_ret
    have e := HL.out
    subst e
    exact ⟨A', _, c', rfl, by simpa using ho1, (Below.alloc_self _ _).trans hb1⟩

/-- A slice of an array that lies in a block. -/
theorem SI.of_arr {w : World} {g t n : Nat} {l : List Int} (h : Blk w g t (arrC l)) (hn : n ≤ 7) (hl : l.length = 7) : SI w (some ⟨g, 0, none⟩) n (l.take n) := by
  refine ⟨by simp; omega, fun _ => ⟨g, 0, rfl, h.lt, fun k hk => ?_⟩⟩
  rw [nth_take hk, Nat.zero_add, h.cell, arrC_get l k (by omega)]

theorem Tryd.arrLen : Tryd.prog.arrayLen 113 = 7 := by kernel_rfl
theorem Tryd.arrElem : Tryd.prog.elem 113 = 3 := by kernel_rfl
theorem sliceArr_to (a : Addr) (n : Nat) (hn : n ≤ 7) (w : World) : (Instr.sliceAt 113 (.pointer (some a)) none (some (.int .i64 n)) none).run Tryd.prog w = .ok (.slice (some a) n 7) w := by
  obtain ⟨i0, hi, hz0, hz1, hz2⟩ := info_parts Tryd.infoInt
  have h := run_sliceAt_array_h (P := Tryd.prog) w 113 a (by rw [Tryd.arrLen, Tryd.arrElem]; exact Tryd.undArr) .i64 (n : Int) (by omega) (by rw [Tryd.arrLen]; omega)
  rw [h, Tryd.arrLen, Tryd.arrElem]
  simp [sizeOf, typeInfo, hi, slicedAt, Addr.add]
theorem sliceArr_from (a : Addr) (n : Nat) (hn : n ≤ 7) (w : World) : (Instr.sliceAt 113 (.pointer (some a)) (some (.int .i64 n)) none none).run Tryd.prog w = .ok (.slice (some (if 7 = n then a else a.add n)) (7 - n) (7 - n)) w := by
  obtain ⟨i0, hi, hz0, hz1, hz2⟩ := info_parts Tryd.infoInt
  have h := run_sliceAt_array_l (P := Tryd.prog) w 113 a (by rw [Tryd.arrLen, Tryd.arrElem]; exact Tryd.undArr) .i64 (n : Int) (by omega) (by rw [Tryd.arrLen]; omega)
  rw [h, Tryd.arrLen, Tryd.arrElem]
  simp [sizeOf, typeInfo, hi, slicedAt, hz1]

set_option maxHeartbeats 400000 in
theorem list_any (l : List Int) (n : Nat) (w : World) (hl : l.length = 7) (hn : n ≤ 7) :
    Calls Tryd.prog 87 #[arr l, .int .i64 n] w fun e w' => Fresh w w' e (l.take n) := by
  have HL := Lib.hid hl
  clear hl
  have hsl := fun wx => sliceArr_to ⟨w.heap.size, 0, none⟩ n hn wx
  go_enter Tryd.func87, Tryd.ntmps87
  go_wp2_with fail
  refine (clone_any _ _ _ _ _ (SI.of_arr (Blk.new w 113 (arrC l)) hn HL.out) (by intro h; cases h) (by omega)).mono ?_
  rintro e w1 ⟨A1, n1, c1, rfl, ho1, hb1⟩
  go_wp2
  go_ret
  exact Fresh.after (Below.alloc_self _ _) ⟨A1, n1, c1, rfl, ho1, hb1⟩

end Go.Proofs.YtdiiaallklkomaaDoor

/-
  The lengths of rows as an array of sixteen numbers, and back. Conditions: lengths below 2^40.
-/



namespace Go.Proofs.YtdiiaallklkomaaDoor
open Go.RowKit

abbrev arrD (l : List Int) : Array Value := #[.int .i64 (nth l 0), .int .i64 (nth l 1), .int .i64 (nth l 2), .int .i64 (nth l 3), .int .i64 (nth l 4), .int .i64 (nth l 5), .int .i64 (nth l 6), .int .i64 (nth l 7), .int .i64 (nth l 8), .int .i64 (nth l 9), .int .i64 (nth l 10), .int .i64 (nth l 11), .int .i64 (nth l 12), .int .i64 (nth l 13), .int .i64 (nth l 14), .int .i64 (nth l 15)]
abbrev arr16 (l : List Int) : Value := .agg (arrD l)
theorem lt16 {k : Nat} (h : k < 16) : k = 0 ∨ k = 1 ∨ k = 2 ∨ k = 3 ∨ k = 4 ∨ k = 5 ∨ k = 6 ∨ k = 7 ∨ k = 8 ∨ k = 9 ∨ k = 10 ∨ k = 11 ∨ k = 12 ∨ k = 13 ∨ k = 14 ∨ k = 15 := by omega
theorem arrD_get (l : List Int) (k : Nat) (h : k < 16) : (arrD l)[k]? = some (.int .i64 (nth l k)) := by
  rcases lt16 h with rfl | rfl | rfl | rfl | rfl | rfl | rfl | rfl | rfl | rfl | rfl | rfl | rfl | rfl | rfl | rfl <;> rfl
theorem arrD_of {l : List Int} (h : l.length = 16) : (l.map (Value.int .i64)).toArray = arrD l := by
  apply Array.ext_getElem?
  intro k
  by_cases hk : k < 16
  · rw [arrD_get l k hk]
    simp only [List.getElem?_toArray, List.getElem?_map]
    rw [nth_get? (by omega)]; rfl
  · rw [Array.getElem?_eq_none (by simp [h]; omega), Array.getElem?_eq_none (by simp; omega)]
theorem arrD_set (l : List Int) (k : Nat) (_ : k < 16) (x : Int) (hl : l.length = 16) : (arrD l).setIfInBounds k (.int .i64 x) = arrD (l.set k x) := by
  rw [← arrD_of hl, ← arrD_of (l := l.set k x) (by simpa using hl)]
  simp [List.map_set]
theorem arrD_one (l : List Int) : (arrD l).all (·.oneCell') = true := by simp [Value.oneCell']
theorem SI.of_rows {w : World} {g t n : Nat} {l : List Int} (h : Blk w g t (arrD l)) (hn : n ≤ 16) (hl : l.length = 16) : SI w (some ⟨g, 0, none⟩) n (l.take n) := by
  refine ⟨by simp; omega, fun _ => ⟨g, 0, rfl, h.lt, fun k hk => ?_⟩⟩
  rw [nth_take hk, Nat.zero_add, h.cell, arrD_get l k (by omega)]
abbrev zero16 : Array Value := #[.int .i64 0, .int .i64 0, .int .i64 0, .int .i64 0, .int .i64 0, .int .i64 0, .int .i64 0, .int .i64 0, .int .i64 0, .int .i64 0, .int .i64 0, .int .i64 0, .int .i64 0, .int .i64 0, .int .i64 0, .int .i64 0]
end Go.Proofs.YtdiiaallklkomaaDoor

/-
  The conjugate shape, on both sides. Conditions: lengths below 2^40.
-/


namespace Go.Proofs.YtdiiaallklkomaaDoor
open Go.RowKit

/-- How many of the first k numbers are more than j. -/
def cntN (xs : List Int) (j : Nat) : Nat → Int
  | 0 => 0
  | k + 1 => if (j : Int) < nth xs k then cntN xs j k + 1 else cntN xs j k
theorem cntN_range (xs : List Int) (j : Nat) : ∀ k : Nat, 0 ≤ cntN xs j k ∧ cntN xs j k ≤ (k : Int)
  | 0 => ⟨Int.le_refl _, Int.le_refl _⟩
  | k + 1 => by
    have := cntN_range xs j k
    unfold cntN
    split <;> omega
def conjL (xs : List Int) (m : Nat) : List Int := (List.range m).map fun j => cntN xs j xs.length
theorem conjL_len (xs : List Int) (m : Nat) : (conjL xs m).length = m := by simp [conjL]
theorem conjL_succ (xs : List Int) (m : Nat) : conjL xs (m + 1) = conjL xs m ++ [cntN xs m xs.length] := by simp [conjL, List.range_succ]
/-- What ConjugateShape answers. -/
def conjShape (xs : List Int) : List Int := if isShapeB xs = true then conjL xs (nth xs 0).toNat else []
theorem conj_no {xs : List Int} (h : isShapeB xs = false) : conjShape xs = [] := by unfold conjShape; rw [if_neg (by rw [h]; decide)]
theorem conj_yes {xs : List Int} (h : isShapeB xs = true) : conjShape xs = conjL xs (nth xs 0).toNat := by unfold conjShape; rw [if_pos h]
theorem shape_first {xs : List Int} (h : isShapeP xs) : ∀ k, k < xs.length → nth xs k ≤ nth xs 0 := by
  intro k
  induction k with
  | zero => intro _; exact Int.le_refl _
  | succ k ih => intro hk; have h1 := ih (by omega); have h2 : nth xs (k + 1) ≤ nth xs k := (h.2 (k + 1) hk).2; omega
theorem shape_range {xs : List Int} (h : isShapeP xs) : ∀ k, 0 ≤ nth xs k ∧ nth xs k ≤ 16 := by
  have h0 : nth xs 0 ≤ 16 ∨ xs.length = 0 := by
    by_cases hl : xs.length = 0
    · exact .inr hl
    · exact .inl ((h.2 0 (by omega)).2)
  intro k
  by_cases hk : k < xs.length
  · have h1 := (h.2 k hk).1
    have h2 := shape_first h k hk
    omega
  · rw [nth_out (by omega)]; omega
theorem conj_small (xs : List Int) : (conjShape xs).length ≤ 1099511627775 := by
  unfold conjShape
  split
  · rename_i h
    rw [conjL_len]
    have := shape_range (isShapeB_P h) 0
    omega
  · simp
theorem Fresh.nil_ret' {w w' : World} (h : Below w.heap.size w w') : Fresh w w' (.returned (.slice none 0 0)) [] := ⟨none, 0, 0, rfl, Own.nil _ _ _, h⟩
end Go.Proofs.YtdiiaallklkomaaDoor

/-
  The conjugate shape, the program's side. Conditions: lengths below 2^40.
-/

namespace Go.Proofs.YtdiiaallklkomaaDoor
open Go.RowKit

/-- The columns when i rows are counted, and j cells of the next one. -/
def colM (xs : List Int) (m i j : Nat) : List Int := (List.range m).map fun t => if t < j then cntN xs t (i + 1) else cntN xs t i
theorem colM_len (xs : List Int) (m i j : Nat) : (colM xs m i j).length = m := by simp [colM]
theorem colM_nth {xs : List Int} {m i j t : Nat} (h : t < m) : nth (colM xs m i j) t = if t < j then cntN xs t (i + 1) else cntN xs t i := by
  rw [nth_get (by rw [colM_len]; exact h)]; simp [colM]
theorem list_ext_nth {a b : List Int} (hl : a.length = b.length) (h : ∀ k, k < a.length → nth a k = nth b k) : a = b := by
  apply List.ext_getElem hl
  intro j h1 h2
  rw [← nth_get h1, ← nth_get h2]
  exact h j h1
theorem nth_set {l : List Int} {k : Nat} (x : Int) (hk : k < l.length) (j : Nat) : nth (l.set k x) j = if j = k then x else nth l j := by
  unfold nth
  rw [List.getD_eq_getElem?_getD, List.getD_eq_getElem?_getD, List.getElem?_set]
  by_cases h : k = j
  · subst h; simp [hk]
  · rw [if_neg h, if_neg (fun h' => h h'.symm)]
theorem colM_step {xs : List Int} {m i j : Nat} (hj : j < m) (hx : (j : Int) < nth xs i) : (colM xs m i j).set j (cntN xs j i + 1) = colM xs m i (j + 1) := by
  refine list_ext_nth (by simp [colM_len]) fun k hk => ?_
  have hk' : k < m := by simpa [colM_len] using hk
  rw [nth_set _ (by rw [colM_len]; exact hj), colM_nth hk', colM_nth hk']
  by_cases h : k = j
  · subst h
    rw [if_pos rfl, if_pos (by omega)]
    show _ = if (k : Int) < nth xs i then cntN xs k i + 1 else cntN xs k i
    rw [if_pos hx]
  · rw [if_neg h]
    by_cases h2 : k < j
    · rw [if_pos h2, if_pos (by omega)]
    · rw [if_neg h2, if_neg (by omega)]
theorem colM_row {xs : List Int} {m i j : Nat} (hx : nth xs i = (j : Int)) : colM xs m i j = colM xs m (i + 1) 0 := by
  refine list_ext_nth (by simp [colM_len]) fun k hk => ?_
  have hk' : k < m := by simpa [colM_len] using hk
  rw [colM_nth hk', colM_nth hk', if_neg (by omega : ¬ k < 0)]
  by_cases h : k < j
  · rw [if_pos h]
  · rw [if_neg h]
    show _ = if (k : Int) < nth xs i then cntN xs k i + 1 else cntN xs k i
    rw [if_neg (by omega)]
theorem colM_start (xs : List Int) (m : Nat) : colM xs m 0 0 = List.replicate m 0 := by
  refine list_ext_nth (by simp [colM_len]) fun k hk => ?_
  have hk' : k < m := by simpa [colM_len] using hk
  rw [colM_nth hk', if_neg (by omega), nth_get (by simpa using hk')]
  simp [cntN]
theorem colM_all (xs : List Int) (m : Nat) : colM xs m xs.length 0 = conjL xs m := by
  refine list_ext_nth (by simp [colM_len, conjL_len]) fun k hk => ?_
  have hk' : k < m := by simpa [colM_len] using hk
  rw [colM_nth hk', if_neg (by omega), nth_get (by simpa [conjL_len] using hk')]
  simp [conjL]
end Go.Proofs.YtdiiaallklkomaaDoor

/-
  Contracts of the specification's codes, lengths and descents. Conditions: lengths below 2^40.
-/

namespace Go.Proofs.YtdiiaallklkomaaDoor
open Go.RowKit

/-- How many of the places behind i and before j have a smaller number. -/
def codeCnt (xs : List Int) (i : Nat) : Nat → Nat
  | 0 => 0
  | j + 1 => codeCnt xs i j + if i < j ∧ nth xs j < nth xs i then 1 else 0
theorem codeCnt_le (xs : List Int) (i j : Nat) : codeCnt xs i j ≤ j := by
  induction j with
  | zero => exact Nat.le_refl _
  | succ j ih => unfold codeCnt; split <;> omega
theorem codeCnt_low (xs : List Int) (i j : Nat) (h : j ≤ i + 1) : codeCnt xs i j = 0 := by
  induction j with
  | zero => rfl
  | succ j ih => unfold codeCnt; rw [ih (by omega), if_neg (by omega)]
theorem codeCnt_hit {xs : List Int} {i j : Nat} (h : i < j) (hx : nth xs j < nth xs i) : codeCnt xs i (j + 1) = codeCnt xs i j + 1 := by
  show codeCnt xs i j + (if i < j ∧ nth xs j < nth xs i then 1 else 0) = _
  rw [if_pos ⟨h, hx⟩]
theorem codeCnt_miss {xs : List Int} {i j : Nat} (hx : ¬ nth xs j < nth xs i) : codeCnt xs i (j + 1) = codeCnt xs i j := by
  show codeCnt xs i j + (if i < j ∧ nth xs j < nth xs i then 1 else 0) = _
  rw [if_neg (fun h => hx h.2)]; rfl
/-- The code, k places filled. -/
def codeL (xs : List Int) (n k : Nat) : List Int := (List.range n).map fun i => if i < k then (codeCnt xs i n : Int) else 0
theorem codeL_len (xs : List Int) (n k : Nat) : (codeL xs n k).length = n := by simp [codeL]
theorem codeL_nth (xs : List Int) (n k i : Nat) (h : i < n) : nth (codeL xs n k) i = if i < k then (codeCnt xs i n : Int) else 0 := by
  rw [nth_get (by rw [codeL_len]; exact h)]; simp [codeL]
theorem codeL_zero (xs : List Int) (n : Nat) : codeL xs n 0 = List.replicate n 0 := by
  apply List.ext_getElem (by simp [codeL])
  intro j h1 h2; simp [codeL]
theorem codeL_set0 (xs : List Int) (n k : Nat) (_h : k < n) : (codeL xs n k).set k 0 = codeL xs n k := by
  apply List.ext_getElem (by simp)
  intro j h1 h2
  rw [List.getElem_set]
  split
  · rename_i e; subst e; simp [codeL]
  · rfl
theorem codeL_set (xs : List Int) (n k : Nat) (_h : k < n) : (codeL xs n k).set k (codeCnt xs k n : Int) = codeL xs n (k + 1) := by
  apply List.ext_getElem (by simp [codeL])
  intro j h1 h2
  rw [List.getElem_set]
  simp only [codeL, List.getElem_map, List.getElem_range]
  by_cases e : k = j
  · subst e; simp
  · rw [if_neg e]
    by_cases h3 : j < k
    · rw [if_pos h3, if_pos (by omega)]
    · rw [if_neg h3, if_neg (by omega)]

/-- The sum of the first k numbers. -/
def sumN (xs : List Int) : Nat → Int
  | 0 => 0
  | k + 1 => sumN xs k + nth xs k
theorem sumN_code (xs : List Int) (n : Nat) (h7 : n ≤ 7) : ∀ k, k ≤ n → 0 ≤ sumN (codeL xs n n) k ∧ sumN (codeL xs n n) k ≤ 7 * (k : Int) := by
  intro k
  induction k with
  | zero => intro _; exact ⟨Int.le_refl _, by simp [sumN]⟩
  | succ k ih =>
    intro hk
    obtain ⟨h1, h2⟩ := ih (by omega)
    have e : sumN (codeL xs n n) (k + 1) = sumN (codeL xs n n) k + nth (codeL xs n n) k := rfl
    rw [e, codeL_nth _ _ _ _ (by omega), if_pos (by omega)]
    have := codeCnt_le xs k n
    omega
/-- The length of a permutation, by its code. -/
def lenL (xs : List Int) : Int := sumN (codeL xs xs.length xs.length) xs.length
theorem lenL_bounds {xs : List Int} (h7 : xs.length ≤ 7) : 0 ≤ lenL xs ∧ lenL xs ≤ 49 := by
  have := sumN_code xs xs.length h7 xs.length (Nat.le_refl _)
  unfold lenL
  omega
/-- What LengthOf answers. -/
def lenPerm (xs : List Int) : Int := if isPermB xs = true then lenL xs else -1
theorem lenPerm_no {xs : List Int} (h : isPermB xs = false) : lenPerm xs = -1 := by unfold lenPerm; rw [if_neg (by rw [h]; decide)]
theorem lenPerm_yes {xs : List Int} (h : isPermB xs = true) : lenPerm xs = lenL xs := by unfold lenPerm; rw [if_pos h]
/-- What CodeOf answers. -/
def codePerm (xs : List Int) : List Int := if isPermB xs = true then codeL xs xs.length xs.length else []
theorem codePerm_no {xs : List Int} (h : isPermB xs = false) : codePerm xs = [] := by unfold codePerm; rw [if_neg (by rw [h]; decide)]
theorem codePerm_yes {xs : List Int} (h : isPermB xs = true) : codePerm xs = codeL xs xs.length xs.length := by unfold codePerm; rw [if_pos h]
theorem codePerm_small (xs : List Int) : (codePerm xs).length ≤ 1099511627775 := by
  unfold codePerm
  split
  · rename_i h
    rw [codeL_len]; exact isPermB_small h
  · simp
/-- The descents among the first k places. -/
def descL (xs : List Int) : Nat → List Int
  | 0 => []
  | k + 1 => if nth xs (k + 1) < nth xs k then descL xs k ++ [(k : Int)] else descL xs k
theorem descL_len (xs : List Int) (k : Nat) : (descL xs k).length ≤ k := by
  induction k with
  | zero => exact Nat.le_refl _
  | succ k ih =>
    unfold descL
    split
    · simp; omega
    · omega
theorem descL_hit {xs : List Int} {k : Nat} (h : nth xs (k + 1) < nth xs k) : descL xs (k + 1) = descL xs k ++ [(k : Int)] := by
  show (if nth xs (k + 1) < nth xs k then descL xs k ++ [(k : Int)] else descL xs k) = _
  rw [if_pos h]
theorem descL_miss {xs : List Int} {k : Nat} (h : ¬ nth xs (k + 1) < nth xs k) : descL xs (k + 1) = descL xs k := by
  show (if nth xs (k + 1) < nth xs k then descL xs k ++ [(k : Int)] else descL xs k) = _
  rw [if_neg h]
def descPerm (xs : List Int) : List Int := if isPermB xs = true then descL xs (xs.length - 1) else []
theorem descPerm_no {xs : List Int} (h : isPermB xs = false) : descPerm xs = [] := by unfold descPerm; rw [if_neg (by rw [h]; decide)]
theorem descPerm_yes {xs : List Int} (h : isPermB xs = true) : descPerm xs = descL xs (xs.length - 1) := by unfold descPerm; rw [if_pos h]
theorem descPerm_small (xs : List Int) : (descPerm xs).length ≤ 1099511627775 := by
  unfold descPerm
  split
  · rename_i h
    have := descL_len xs (xs.length - 1)
    have := isPermB_small h
    omega
  · simp
end Go.Proofs.YtdiiaallklkomaaDoor

/-
  Contracts of the program's functions on arrays: products, inverses; reversing a slice. Conditions: lengths below 2^40.
-/

namespace Go.Proofs.YtdiiaallklkomaaDoor
open Go.RowKit

theorem idxArr (l : List Int) (k : Nat) (h : k < 7) (w : World) : (Instr.index 113 (.agg (arrC l)) (.int .i64 k)).run Tryd.prog w = .ok (.int .i64 (nth l k)) w := by
  rcases lt7 h with rfl | rfl | rfl | rfl | rfl | rfl | rfl <;> kernel_rfl

def part7 (g h : Nat → Int) (k : Nat) : List Int := (List.range 7).map fun j => if j < k then g j else h j
theorem part7_len (g h : Nat → Int) (k : Nat) : (part7 g h k).length = 7 := by simp [part7]
theorem part7_nth (g h : Nat → Int) (k j : Nat) (hj : j < 7) : nth (part7 g h k) j = if j < k then g j else h j := by
  rw [nth_get (by rw [part7_len]; exact hj)]
  simp [part7]
theorem part7_set (g h : Nat → Int) (k : Nat) (hk : k < 7) : (arrC (part7 g h k)).setIfInBounds k (.int .i64 (g k)) = arrC (part7 g h (k + 1)) := by
  rw [arrC_set _ k hk _ (part7_len _ _ _)]
  congr 1
  apply List.ext_getElem (by simp [part7])
  intro j h1 h2
  rw [List.getElem_set]
  simp only [part7, List.getElem_map, List.getElem_range]
  by_cases e : k = j
  · subst e; simp
  · rw [if_neg e]
    by_cases h3 : j < k
    · rw [if_pos h3, if_pos (by omega)]
    · rw [if_neg h3, if_neg (by omega)]

/-- The product of two arrays. -/
def permTimesL (la lb : List Int) : List Int := part7 (fun j => nth la (nth lb j).toNat) (fun _ => 0) 7

/-! Plain facts on the array of a permutation. -/
theorem fillA_range {xs : List Int} (h : isPermP xs) (k : Nat) (hk : k < 7) : 0 ≤ nth (fillA xs xs.length) k ∧ nth (fillA xs xs.length) k < 7 := by
  have h7 := h.2.1
  rw [fillA_nth _ _ _ hk]
  split
  · rename_i hlt
    have := h.range k hlt
    omega
  · omega
theorem fillA_ge {xs : List Int} {n k : Nat} (h : ¬ k < n) (hk : k < 7) : nth (fillA xs n) k = (k : Int) := by rw [fillA_nth _ _ _ hk, if_neg h]
theorem fillA_lt {xs : List Int} {n k : Nat} (h : k < n) (hk : k < 7) : nth (fillA xs n) k = nth xs k := by rw [fillA_nth _ _ _ hk, if_pos h]

theorem permTimesL_take {us vs : List Int} (_hu : isPermP us) (hv : isPermP vs) (hl : us.length = vs.length) : (permTimesL (fillA us us.length) (fillA vs vs.length)).take vs.length = compL us vs vs.length := by
  have h7 := hv.2.1
  apply List.ext_getElem
  · rw [List.length_take, compL_len]; simp [permTimesL, part7]; omega
  · intro j h1 h2
    have hj : j < vs.length := by rw [compL_len] at h2; exact h2
    have hr := hv.range j hj
    rw [List.getElem_take]
    simp only [permTimesL, part7, compL, List.getElem_map, List.getElem_range]
    rw [if_pos (by omega), fillA_lt hj (by omega), fillA_lt (by omega) (by omega)]

theorem invM_take {xs : List Int} (h : isPermP xs) : (invM (fillA xs xs.length) 7 7).take xs.length = invM xs xs.length xs.length := by
  have h7 := h.2.1
  have key : ∀ k, k ≤ xs.length → (invM (fillA xs xs.length) 7 k).take xs.length = invM xs xs.length k := by
    intro k
    induction k with
    | zero =>
      intro _
      show (List.replicate 7 (0 : Int)).take xs.length = List.replicate xs.length 0
      rw [List.take_replicate, Nat.min_eq_left h7]
    | succ k ih =>
      intro hk
      have hr := h.range k (by omega)
      rw [invM_succ, invM_succ, ← ih (by omega), fillA_lt (by omega) (by omega), List.take_set]
  have key2 : ∀ d, xs.length + d ≤ 7 → (invM (fillA xs xs.length) 7 (xs.length + d)).take xs.length = invM xs xs.length xs.length := by
    intro d
    induction d with
    | zero => intro _; exact key _ (Nat.le_refl _)
    | succ d ih =>
      intro hd
      rw [show xs.length + (d + 1) = (xs.length + d) + 1 from by omega, invM_succ, fillA_ge (by omega) (by omega), List.take_set]
      rw [List.set_eq_of_length_le (by simp [invM_len]; omega)]
      exact ih (by omega)
  have := key2 (7 - xs.length) (by omega)
  rwa [show xs.length + (7 - xs.length) = 7 from by omega] at this
end Go.Proofs.YtdiiaallklkomaaDoor

/-
  Contracts of the specification's EmbedPerm, TrimPerm, RankAt. Conditions: lengths below 2^40.
-/


namespace Go.Proofs.YtdiiaallklkomaaDoor
open Go.RowKit

set_option maxHeartbeats 400000 in
theorem l1Ints_any (A : Option Addr) (n c : Nat) (xs : List Int) (w : World) (hs : SI w A n xs) (hn : n ≤ 1099511627776) :
    Calls Tryd.prog 85 #[.slice A n c] w fun e w' => Fresh w w' e xs := by
  go_enter Tryd.func85, Tryd.ntmps85
  go_wp2_with (at_builtin; refine wpList_append_all rfl (.tmp 3) (.tmp 4) rfl w.heap.size (some ⟨w.heap.size, 0, none⟩) 0 0 [] A n c xs rfl rfl ((Own.empty w).wide (Nat.le_refl _) (by simp)) (hs.alloc _) (by simp) (by omega) hn ?_; intro A' c' w1 ho1 _ hb1)
  go_ret
  exact ⟨A', _, c', rfl, by simpa using ho1, (Below.alloc_self _ _).trans hb1⟩

theorem fill_take_len {xs : List Int} (h7 : xs.length ≤ 7) : (fillA xs xs.length).take xs.length = xs := by
  apply List.ext_getElem
  · rw [List.length_take, fillA_len]; omega
  · intro j h1 h2
    rw [List.getElem_take]
    simp only [fillA, List.getElem_map, List.getElem_range]
    rw [if_pos h2, nth_get h2]
theorem fill_take_succ {xs : List Int} {k : Nat} (hk : xs.length ≤ k) (h7 : k < 7) : (fillA xs xs.length).take (k + 1) = (fillA xs xs.length).take k ++ [(k : Int)] := by
  rw [take_nth (by rw [fillA_len]; exact h7), fillA_ge (by omega) h7]
theorem fill_take_short {xs : List Int} {k : Nat} (hk : k ≤ xs.length) (h7 : xs.length ≤ 7) : (fillA xs xs.length).take k = xs.take k := by
  have := fill_take_len h7
  rw [← this, List.take_take]
  rw [this, Nat.min_eq_left hk]

/-- What EmbedPerm answers. -/
def embPerm (xs : List Int) (a : Int) : List Int := if isPermB xs = true ∧ (xs.length : Int) ≤ a ∧ a ≤ 7 then (fillA xs xs.length).take a.toNat else []
theorem embPerm_no {xs : List Int} {a : Int} (h : isPermB xs = false ∨ a < (xs.length : Int) ∨ 7 < a) : embPerm xs a = [] := by
  unfold embPerm
  rw [if_neg]
  rintro ⟨h1, h2, h3⟩
  rcases h with h | h | h
  · rw [h1] at h; cases h
  · omega
  · omega
theorem embPerm_yes {xs : List Int} {m : Nat} (h : isPermB xs = true) (h1 : xs.length ≤ m) (h2 : m ≤ 7) : embPerm xs (m : Int) = (fillA xs xs.length).take m := by
  unfold embPerm
  rw [if_pos ⟨h, by omega, by omega⟩, Int.toNat_natCast]
theorem embPerm_small (xs : List Int) (a : Int) : (embPerm xs a).length ≤ 1099511627775 := by
  unfold embPerm
  split
  · rw [List.length_take, fillA_len]; omega
  · simp
/-- How much of a permutation is left. -/
def trimN (xs : List Int) : Nat → Nat
  | 0 => 0
  | k + 1 => if 0 < k ∧ nth xs k = (k : Int) then trimN xs k else k + 1
theorem trimN_hit {xs : List Int} {k : Nat} (h0 : 0 < k) (h : nth xs k = (k : Int)) : trimN xs (k + 1) = trimN xs k := by
  show (if 0 < k ∧ nth xs k = (k : Int) then trimN xs k else k + 1) = _
  rw [if_pos ⟨h0, h⟩]
theorem trimN_miss {xs : List Int} {k : Nat} (h : ¬ (0 < k ∧ nth xs k = (k : Int))) : trimN xs (k + 1) = k + 1 := by
  show (if 0 < k ∧ nth xs k = (k : Int) then trimN xs k else k + 1) = _
  rw [if_neg h]
theorem trimN_le (xs : List Int) (k : Nat) : trimN xs k ≤ k := by
  induction k with
  | zero => exact Nat.le_refl _
  | succ k ih => unfold trimN; split <;> omega
def trimPerm (xs : List Int) : List Int := if isPermB xs = true then xs.take (trimN xs xs.length) else []
theorem trimPerm_no {xs : List Int} (h : isPermB xs = false) : trimPerm xs = [] := by unfold trimPerm; rw [if_neg (by rw [h]; decide)]
theorem trimPerm_yes {xs : List Int} (h : isPermB xs = true) : trimPerm xs = xs.take (trimN xs xs.length) := by unfold trimPerm; rw [if_pos h]
theorem trimPerm_small (xs : List Int) : (trimPerm xs).length ≤ 1099511627775 := by
  unfold trimPerm
  split
  · rename_i h
    have := isPermB_small h
    rw [List.length_take]; omega
  · simp
set_option maxHeartbeats 800000 in
theorem l1Trim_any (A : Option Addr) (n c : Nat) (xs : List Int) (w : World) (hs : SI w A n xs) (hnc : n ≤ c) (h1 : 1 ≤ n) (hn : n ≤ 1099511627776) :
    Calls Tryd.prog 70 #[.slice A n c] w fun e w' => Fresh w w' e (xs.take (trimN xs n)) := by
  have hl := hs.1
  have HL := Lib.hid hl
  clear hl
  obtain ⟨b, o, rfl, hb, hc⟩ := hs.at_ (by omega)
  have HC := Lib.hid hc
  clear hc
  go_enter Tryd.func70, Tryd.ntmps70
  go_wp2
  go_loop [3] (fun v => ∃ k : Nat, k + 1 ≤ n ∧ v = .int .i64 ((k : Int) + 1) ∧ trimN xs (k + 1) = trimN xs n)
    (fun v => (intOf v).toNat)
  case atStart => exact ⟨n - 1, by omega, by go_num, by rw [show n - 1 + 1 = n from by omega]⟩
  case round =>
    obtain ⟨k, hk, rfl, htr⟩ := hrel
    have HT := Lib.hid htr
    have hck := HC.out k (by omega)
    obtain ⟨x, hx⟩ : ∃ x, x = nth xs k := ⟨_, rfl⟩
    rw [← hx] at hck
    have HX := Lib.hid hx
    clear htr hx
    by_cases h0 : 0 < k
    · by_cases hxk : x = (k : Int)
      · subst hxk
        go_wp2
        go_round
        case rel =>
          have e1 := HX.out
          have e2 := HT.out
          rw [trimN_hit h0 e1.symm] at e2
          exact ⟨k - 1, by omega, by go_num, by rw [show k - 1 + 1 = k from by omega]; exact e2⟩
        case measure => simp only [intOf]; omega
      · have hxb : (x == (k : Int)) = false := by simpa using hxk
        have e2 := HT.out
        rw [trimN_miss (by have := HX.out; rintro ⟨_, h⟩; omega)] at e2
        have HT2 := Lib.hid e2
        have hst := hs.take (k := k + 1) (by omega)
        have HX2 := Lib.hid hxk
        clear e2 HT hxk
        go_wp2_with fail
        refine (l1Ints_any _ _ _ _ _ hst (by omega)).mono ?_
        rintro e w3 ⟨A3, n3, c3, rfl, ho3, hb3⟩
        go_wp2
        go_ret
        rw [← HT2.out]
        exact ⟨A3, n3, c3, rfl, ho3, hb3⟩
    · have hk0 : k = 0 := by omega
      subst hk0
      have e2 := HT.out
      rw [trimN_miss (by rintro ⟨h, _⟩; omega)] at e2
      have HT2 := Lib.hid e2
      have hst := hs.take (k := 1) (by omega)
      clear e2 HT
      go_wp2_with fail
      refine (l1Ints_any _ _ _ _ _ hst (by omega)).mono ?_
      rintro e w3 ⟨A3, n3, c3, rfl, ho3, hb3⟩
      go_wp2
      go_ret
      rw [← HT2.out]
      exact ⟨A3, n3, c3, rfl, ho3, hb3⟩
/-- How many of the first k numbers are below c. -/
def rankN (xs : List Int) (c : Int) : Nat → Nat
  | 0 => 0
  | k + 1 => rankN xs c k + if nth xs k < c then 1 else 0
theorem rankN_le (xs : List Int) (c : Int) (k : Nat) : rankN xs c k ≤ k := by
  induction k with
  | zero => exact Nat.le_refl _
  | succ k ih => unfold rankN; split <;> omega
theorem rankN_hit {xs : List Int} {c : Int} {k : Nat} (h : nth xs k < c) : rankN xs c (k + 1) = rankN xs c k + 1 := by
  show rankN xs c k + (if nth xs k < c then 1 else 0) = _
  rw [if_pos h]
theorem rankN_miss {xs : List Int} {c : Int} {k : Nat} (h : ¬ nth xs k < c) : rankN xs c (k + 1) = rankN xs c k := by
  show rankN xs c k + (if nth xs k < c then 1 else 0) = _
  rw [if_neg h]; rfl
theorem rankN_congr {xs ys : List Int} (c : Int) : ∀ k, (∀ t, t < k → nth xs t = nth ys t) → rankN xs c k = rankN ys c k := by
  intro k
  induction k with
  | zero => intro _; rfl
  | succ k ih => intro h; unfold rankN; rw [ih (fun t ht => h t (by omega)), h k (by omega)]
/-- What RankAt answers. -/
def rankPerm (xs : List Int) (r c : Int) : Int := if isPermB xs = true ∧ 0 ≤ r ∧ r ≤ xs.length ∧ 0 ≤ c ∧ c ≤ xs.length then (rankN xs c r.toNat : Int) else -1
theorem rankPerm_no {xs : List Int} {r c : Int} (h : ¬ (isPermB xs = true ∧ 0 ≤ r ∧ r ≤ xs.length ∧ 0 ≤ c ∧ c ≤ xs.length)) : rankPerm xs r c = -1 := by unfold rankPerm; rw [if_neg h]
theorem rankPerm_yes {xs : List Int} {r : Nat} {c : Int} (h : isPermB xs = true) (h1 : (r : Int) ≤ xs.length) (h2 : 0 ≤ c) (h3 : c ≤ xs.length) : rankPerm xs (r : Int) c = (rankN xs c r : Int) := by
  unfold rankPerm; rw [if_pos ⟨h, by omega, h1, h2, h3⟩, Int.toNat_natCast]
end Go.Proofs.YtdiiaallklkomaaDoor

/-
  Contracts of the program's ComposePerms and InversePerm. Conditions: lengths below 2^40.
-/

namespace Go.Proofs.YtdiiaallklkomaaDoor
open Go.RowKit

/-- arrayOf, whatever the list: an array, and whether it is a permutation's. -/
theorem arrayOf_x {A : Option Addr} {n : Nat} (c : Nat) {xs : List Int} {w : World} {b : Bool} (hb : isPermB xs = b) (hs : SI w A n xs) (hn : n ≤ 1099511627776) :
    Calls Tryd.prog 86 #[.slice A n c] w fun e w' => ∃ l, e = .returned (.tuple #[arr l, .bool b]) ∧ (b = true → l = fillA xs n) ∧ Below w.heap.size w w' := by
  subst hb
  refine (arrayOf_any A n c xs w hs hn).mono fun e w' ⟨he, hbl⟩ => ?_
  rcases he with ⟨h, he⟩ | ⟨h, he⟩
  · exact ⟨_, by rw [h]; exact he, fun _ => rfl, hbl⟩
  · exact ⟨[0, 0, 0, 0, 0, 0, 0], by rw [h]; exact he, (fun h' => by rw [h] at h'; cases h'), hbl⟩

end Go.Proofs.YtdiiaallklkomaaDoor

/-
  Contracts of the program's lengths, codes and descents. Conditions: lengths below 2^40.
-/


namespace Go.Proofs.YtdiiaallklkomaaDoor
open Go.RowKit

/-- The inversions of the first k places of an array. -/
def invSum (l : List Int) : Nat → Int
  | 0 => 0
  | k + 1 => invSum l k + (codeCnt l k 7 : Int)
theorem invSum_bounds (l : List Int) (k : Nat) : 0 ≤ invSum l k ∧ invSum l k ≤ 7 * (k : Int) := by
  induction k with
  | zero => exact ⟨Int.le_refl _, by simp [invSum]⟩
  | succ k ih =>
    have e : invSum l (k + 1) = invSum l k + (codeCnt l k 7 : Int) := rfl
    have := codeCnt_le l k 7
    omega
theorem codeCnt_congr {xs ys : List Int} {i : Nat} (hi : nth xs i = nth ys i) : ∀ j, (∀ t, t < j → nth xs t = nth ys t) → codeCnt xs i j = codeCnt ys i j := by
  intro j
  induction j with
  | zero => intro _; rfl
  | succ j ih =>
    intro h
    unfold codeCnt
    rw [ih (fun t ht => h t (by omega)), hi, h j (by omega)]
theorem codeCnt_fill {xs : List Int} (h : isPermP xs) (i : Nat) (hi : i < xs.length) : codeCnt (fillA xs xs.length) i 7 = codeCnt xs i xs.length := by
  have h7 := h.2.1
  have key : ∀ d, xs.length + d ≤ 7 → codeCnt (fillA xs xs.length) i (xs.length + d) = codeCnt xs i xs.length := by
    intro d
    induction d with
    | zero => intro _; exact codeCnt_congr (fillA_lt hi (by omega)) _ (fun t ht => fillA_lt ht (by omega))
    | succ d ih =>
      intro hd
      rw [show xs.length + (d + 1) = (xs.length + d) + 1 from by omega, codeCnt_miss, ih (by omega)]
      rw [fillA_ge (by omega) (by omega), fillA_lt hi (by omega)]
      have := h.range i hi
      omega
  have := key (7 - xs.length) (by omega)
  rwa [show xs.length + (7 - xs.length) = 7 from by omega] at this
theorem codeCnt_fill_ge {xs : List Int} (i : Nat) (hi : ¬ i < xs.length) (h7 : i < 7) : codeCnt (fillA xs xs.length) i 7 = 0 := by
  have key : ∀ d, i + 1 + d ≤ 7 → codeCnt (fillA xs xs.length) i (i + 1 + d) = 0 := by
    intro d
    induction d with
    | zero => intro _; exact codeCnt_low _ _ _ (by omega)
    | succ d ih =>
      intro hd
      rw [show i + 1 + (d + 1) = (i + 1 + d) + 1 from by omega, codeCnt_miss, ih (by omega)]
      rw [fillA_ge (by omega) (by omega), fillA_ge hi (by omega)]
      omega
  have := key (6 - i) (by omega)
  rwa [show i + 1 + (6 - i) = 7 from by omega] at this
theorem invSum_fill {xs : List Int} (h : isPermP xs) : invSum (fillA xs xs.length) 7 = lenL xs := by
  have h7 := h.2.1
  have k1 : ∀ k, k ≤ xs.length → invSum (fillA xs xs.length) k = sumN (codeL xs xs.length xs.length) k := by
    intro k
    induction k with
    | zero => intro _; rfl
    | succ k ih =>
      intro hk
      show invSum _ k + (codeCnt _ k 7 : Int) = sumN _ k + nth _ k
      rw [ih (by omega), codeL_nth _ _ _ _ (by omega), if_pos (by omega), codeCnt_fill h k (by omega)]
  have k2 : ∀ d, xs.length + d ≤ 7 → invSum (fillA xs xs.length) (xs.length + d) = lenL xs := by
    intro d
    induction d with
    | zero => intro _; exact k1 _ (Nat.le_refl _)
    | succ d ih =>
      intro hd
      show invSum _ (xs.length + d) + (codeCnt _ (xs.length + d) 7 : Int) = _
      rw [ih (by omega), codeCnt_fill_ge _ (by omega) (by omega)]
      simp
  have := k2 (7 - xs.length) (by omega)
  rwa [show xs.length + (7 - xs.length) = 7 from by omega] at this

theorem isDescent_fact {x y : Int} : (decide (y < x)) = decide (x > y) := rfl
end Go.Proofs.YtdiiaallklkomaaDoor

/-
  Contracts of the program's descents and of reversing a slice. Conditions: lengths below 2^40.
-/

namespace Go.Proofs.YtdiiaallklkomaaDoor
open Go.RowKit

theorem descL_fill {xs : List Int} (h : isPermP xs) : ∀ k, k + 1 ≤ xs.length → descL (fillA xs xs.length) k = descL xs k := by
  have h7 := h.2.1
  intro k
  induction k with
  | zero => intro _; rfl
  | succ k ih =>
    intro hk
    unfold descL
    rw [ih (by omega), fillA_lt (by omega) (by omega), fillA_lt (by omega) (by omega)]

/-- Reversing, k places exchanged from both ends. -/
def revM (xs : List Int) (n k : Nat) : List Int := (List.range n).map fun t => if t < k ∨ n ≤ t + k then nth xs (n - 1 - t) else nth xs t
theorem revM_len (xs : List Int) (n k : Nat) : (revM xs n k).length = n := by simp [revM]
theorem revM_nth (xs : List Int) (n k t : Nat) (h : t < n) : nth (revM xs n k) t = if t < k ∨ n ≤ t + k then nth xs (n - 1 - t) else nth xs t := by
  rw [nth_get (by rw [revM_len]; exact h)]; simp [revM]
theorem revM_zero (xs : List Int) : revM xs xs.length 0 = xs := by
  apply List.ext_getElem (by simp [revM])
  intro j h1 h2
  simp only [revM, List.getElem_map, List.getElem_range]
  rw [if_neg (by omega), nth_get h2]
theorem revM_done (xs : List Int) (k : Nat) (h : xs.length ≤ 2 * k + 1) : revM xs xs.length k = xs.reverse := by
  apply List.ext_getElem (by simp [revM])
  intro j h1 h2
  have hj : j < xs.length := by rw [revM_len] at h1; exact h1
  simp only [revM, List.getElem_map, List.getElem_range, List.getElem_reverse]
  split
  · rw [nth_get (by omega)]
  · rename_i hc
    have e : xs.length - 1 - j = j := by omega
    simp only [e]
    rw [nth_get hj]
theorem revM_step (xs : List Int) (n k : Nat) (h : 2 * k + 1 < n) :
    ((revM xs n k).set k (nth xs (n - 1 - k))).set (n - 1 - k) (nth xs k) = revM xs n (k + 1) := by
  apply List.ext_getElem (by simp [revM])
  intro j h1 h2
  have hj : j < n := by rw [revM_len] at h2; exact h2
  rw [List.getElem_set]
  simp only [revM, List.getElem_map, List.getElem_range]
  by_cases e : n - 1 - k = j
  · rw [if_pos e, if_pos (by omega)]
    rw [show n - 1 - j = k from by omega]
  · rw [if_neg e, List.getElem_set]
    simp only [List.getElem_map, List.getElem_range]
    by_cases e2 : k = j
    · rw [if_pos e2, if_pos (by omega), e2]
    · rw [if_neg e2]
      by_cases h3 : j < k ∨ n ≤ j + k
      · rw [if_pos h3, if_pos (by omega)]
      · rw [if_neg h3, if_neg (by omega)]

theorem idL_reverse (n : Nat) : (idL n).reverse = downL n n := by
  apply List.ext_getElem (by simp [idL, downL])
  intro j h1 h2
  simp only [List.getElem_reverse, idL, downL, List.getElem_map, List.getElem_range, List.length_map, List.length_range]
  have : j < n := by simpa [idL] using h1
  omega

end Go.Proofs.YtdiiaallklkomaaDoor

/-
  The shape of a permutation with one descent, on both sides. Conditions: lengths below 2^40.
-/




namespace Go.Proofs.YtdiiaallklkomaaDoor
open Go.RowKit

/-- Where the zeros at the end of a list begin. -/
def bareN (xs : List Int) : Nat → Nat
  | 0 => 0
  | k + 1 => if nth xs k = 0 then bareN xs k else k + 1
theorem bareN_le (xs : List Int) : ∀ k, bareN xs k ≤ k
  | 0 => Nat.le_refl _
  | k + 1 => by have := bareN_le xs k; unfold bareN; split <;> omega
theorem bareN_out (xs : List Int) : ∀ k j, bareN xs k ≤ j → j < k → nth xs j = 0
  | 0, j, _, h => absurd h (by omega)
  | k + 1, j, h1, h2 => by
    unfold bareN at h1
    split at h1
    · by_cases hj : j = k
      · subst hj; assumption
      · exact bareN_out xs k j h1 (by omega)
    · omega
theorem bareN_last (xs : List Int) : ∀ k, bareN xs k = 0 ∨ nth xs (bareN xs k - 1) ≠ 0
  | 0 => .inl rfl
  | k + 1 => by
    unfold bareN
    split
    · exact bareN_last xs k
    · right; assumption
/-- A list that nowhere rises and is nowhere below 0: both ways to strike its zeros are one. -/
theorem bare_one {l : List Int} {n q : Nat} (hn : l.length = n) (h0 : ∀ j, 0 ≤ nth l j) (hd : ∀ i j, i ≤ j → nth l j ≤ nth l i) (hq : ∀ j, j < q → 0 < nth l j) (hq' : ¬ 0 < nth l q) : q = bareN l n := by
  have h1 := bareN_le l n
  rcases Nat.lt_trichotomy q (bareN l n) with h | h | h
  · rcases bareN_last l n with h2 | h2
    · omega
    · have := hd q (bareN l n - 1) (by omega)
      have := h0 (bareN l n - 1)
      omega
  · exact h
  · have := hq (bareN l n) h
    by_cases hb : bareN l n < n
    · rw [bareN_out l n _ (Nat.le_refl _) hb] at this; omega
    · rw [nth_out (by omega)] at this; omega
end Go.Proofs.YtdiiaallklkomaaDoor

/-
  ShapeOfPerm on both sides. Conditions: lengths below 2^40.
-/


namespace Go.Proofs.YtdiiaallklkomaaDoor
open Go.RowKit

/-- The lengths of the rows, of which there are j, of a permutation whose descent is at d. -/
def sopN (xs : List Int) (d j : Nat) : List Int := (List.range j).map fun (t : Nat) => nth xs (d - t) - ((d - t : Nat) : Int)
theorem sopN_len (xs : List Int) (d j : Nat) : (sopN xs d j).length = j := by simp [sopN]
theorem sopN_succ (xs : List Int) (d j : Nat) : sopN xs d (j + 1) = sopN xs d j ++ [nth xs (d - j) - ((d - j : Nat) : Int)] := by simp [sopN, List.range_succ]
theorem sopN_nth {xs : List Int} {d j t : Nat} (h : t < j) : nth (sopN xs d j) t = nth xs (d - t) - ((d - t : Nat) : Int) := by
  rw [nth_get (by rw [sopN_len]; exact h)]; simp [sopN]
def sopOk (xs : List Int) : Bool := decide ((descPerm xs).length = 1)
def sopD (xs : List Int) : Nat := (nth (descPerm xs) 0).toNat
def sopK (xs : List Int) : Int := if sopOk xs = true then (sopD xs : Int) + 1 else 0
def sopS (xs : List Int) : List Int := if sopOk xs = true then (sopN xs (sopD xs) (sopD xs + 1)).take (bareN (sopN xs (sopD xs) (sopD xs + 1)) (sopD xs + 1)) else []
theorem sop_no {xs : List Int} (h : sopOk xs = false) : sopK xs = 0 ∧ sopS xs = [] := by unfold sopK sopS; rw [h]; exact ⟨rfl, rfl⟩
theorem sop_yes {xs : List Int} (h : sopOk xs = true) {d : Nat} (hd : sopD xs = d) : sopK xs = (d : Int) + 1 ∧ sopS xs = (sopN xs d (d + 1)).take (bareN (sopN xs d (d + 1)) (d + 1)) := by subst hd; unfold sopK sopS; rw [h]; exact ⟨rfl, rfl⟩
theorem descL_inS {xs : List Int} : ∀ {n : Nat} {x : Int}, x ∈ descL xs n → ∃ k : Nat, k < n ∧ x = k ∧ nth xs (k + 1) < nth xs k
  | 0, x, h => by simp [descL] at h
  | n + 1, x, h => by
    by_cases hc : nth xs (n + 1) < nth xs n
    · rw [descL_hit hc] at h
      rcases List.mem_append.1 h with h | h
      · obtain ⟨k, h1, h2⟩ := descL_inS h; exact ⟨k, by omega, h2⟩
      · exact ⟨n, by omega, List.mem_singleton.1 h, hc⟩
    · rw [descL_miss hc] at h
      obtain ⟨k, h1, h2⟩ := descL_inS h; exact ⟨k, by omega, h2⟩
theorem descL_all {xs : List Int} : ∀ {n k : Nat}, k < n → nth xs (k + 1) < nth xs k → (k : Int) ∈ descL xs n
  | 0, k, h, _ => absurd h (by omega)
  | n + 1, k, h, hk => by
    by_cases hkn : k = n
    · subst hkn; rw [descL_hit hk]; simp
    · have := descL_all (n := n) (by omega) hk
      by_cases hc : nth xs (n + 1) < nth xs n
      · rw [descL_hit hc]; exact List.mem_append.2 (.inl this)
      · rw [descL_miss hc]; exact this
structure SopF (xs : List Int) (d : Nat) : Prop where
  perm : isPermP xs
  desc : descPerm xs = [(d : Int)]
  lt : d + 1 < xs.length
  up : ∀ i, i < d → nth xs i < nth xs (i + 1)
theorem sop_facts {xs : List Int} (h : sopOk xs = true) : ∃ d, sopD xs = d ∧ SopF xs d := by
  unfold sopOk at h
  have h1 : (descPerm xs).length = 1 := of_decide_eq_true h
  obtain ⟨x, hx⟩ : ∃ x, descPerm xs = [x] := by
    match hd : descPerm xs, h1 with
    | [x], _ => exact ⟨x, rfl⟩
  have hb : isPermB xs = true := by
    cases hb : isPermB xs with
    | true => rfl
    | false => rw [descPerm_no hb] at hx; cases hx
  have hp := isPermB_P hb
  have hdl := hx
  rw [descPerm_yes hb] at hdl
  obtain ⟨d, h2, rfl, h4⟩ := descL_inS (xs := xs) (n := xs.length - 1) (x := x) (by rw [hdl]; simp)
  refine ⟨d, by unfold sopD; rw [hx]; simp [nth], hp, hx, by omega, fun i hi => ?_⟩
  have hne : ¬ nth xs (i + 1) < nth xs i := fun hlt => by
    have := descL_all (xs := xs) (n := xs.length - 1) (k := i) (by omega) hlt
    rw [hdl] at this
    have := List.mem_singleton.1 this
    omega
  have hd : nth xs i ≠ nth xs (i + 1) := fun e => by
    have h5 := (hp.2.2 (i + 1) (by omega)).2.2
    simp only [hasB, decide_eq_false_iff_not] at h5
    apply h5
    rw [← e, ← nth_take (show i < i + 1 by omega), nth_get (by rw [List.length_take]; omega)]
    exact List.getElem_mem _
  omega
theorem sopS_small (xs : List Int) : (sopS xs).length ≤ 1099511627775 := by
  cases hu : sopOk xs with
  | false => rw [(sop_no hu).2]; simp
  | true =>
    obtain ⟨d, hd, hf⟩ := sop_facts hu
    rw [(sop_yes hu hd).2, List.length_take, sopN_len]
    have := hf.lt; have := hf.perm.2.1
    omega
theorem SopF.ge {xs : List Int} {d : Nat} (h : SopF xs d) : ∀ i, i ≤ d → (i : Int) ≤ nth xs i
  | 0, _ => (h.perm.range 0 (by have := h.lt; omega)).1
  | i + 1, hi => by have := h.ge i (by omega); have := h.up i (by omega); omega
theorem SopF.le7 {xs : List Int} {d : Nat} (h : SopF xs d) : d ≤ 5 ∧ ∀ i, i ≤ d → 0 ≤ nth xs i ∧ nth xs i ≤ 6 := by
  have := h.lt; have := h.perm.2.1
  exact ⟨by omega, fun i hi => by have := h.perm.range i (by omega); omega⟩
theorem SopF.nonneg {xs : List Int} {d : Nat} (h : SopF xs d) (j : Nat) : 0 ≤ nth (sopN xs d (d + 1)) j := by
  by_cases hj : j < d + 1
  · rw [sopN_nth hj]; have := h.ge (d - j) (by omega); omega
  · rw [nth_out (by rw [sopN_len]; omega)]; exact Int.le_refl _
theorem SopF.down {xs : List Int} {d : Nat} (h : SopF xs d) : ∀ i j, i ≤ j → nth (sopN xs d (d + 1)) j ≤ nth (sopN xs d (d + 1)) i := by
  have step : ∀ i, nth (sopN xs d (d + 1)) (i + 1) ≤ nth (sopN xs d (d + 1)) i := fun i => by
    by_cases hi : i + 1 < d + 1
    · rw [sopN_nth hi, sopN_nth (by omega)]
      have := h.up (d - (i + 1)) (by omega)
      rw [show d - (i + 1) + 1 = d - i by omega] at this
      omega
    · rw [nth_out (by rw [sopN_len]; omega)]; exact h.nonneg i
  intro i j hij
  induction j with
  | zero => obtain rfl : i = 0 := by omega
            exact Int.le_refl _
  | succ j ih =>
    by_cases hi : i = j + 1
    · subst hi; exact Int.le_refl _
    · exact Int.le_trans (step j) (ih (by omega))
/-- What a call that answers a list, a number and a Bool hands back. -/
def FreshIB (w w' : World) (e : Ending) (ys : List Int) (k : Int) (b : Bool) : Prop :=
  ∃ A n c, e = .returned (.tuple #[.slice A n c, .int .i64 k, .bool b]) ∧ Own w' w.heap.size w'.heap.size A n c ys ∧ Below w.heap.size w w'
theorem FreshIB.nil_ret {w w' : World} (h : Below w.heap.size w w') : FreshIB w w' (.returned (.tuple #[.slice none 0 0, .int .i64 0, .bool false])) [] 0 false := ⟨none, 0, 0, rfl, Own.nil _ _ _, h⟩
/-- The rows when i numbers are taken. -/
def rowP (xs : List Int) (d i : Nat) : List Int := (List.range 16).map fun (t : Nat) => if d < t + i ∧ t ≤ d then nth xs (d - t) - ((d - t : Nat) : Int) else 0
theorem rowP_len (xs : List Int) (d i : Nat) : (rowP xs d i).length = 16 := by simp [rowP]
theorem rowP_nth {xs : List Int} {d i t : Nat} (h : t < 16) : nth (rowP xs d i) t = if d < t + i ∧ t ≤ d then nth xs (d - t) - ((d - t : Nat) : Int) else 0 := by
  rw [nth_get (by rw [rowP_len]; exact h)]; simp [rowP]
theorem rowP_step {xs : List Int} {d i : Nat} (hd : d ≤ 15) (hi : i ≤ d) : (rowP xs d i).set (d - i) (nth xs i - (i : Int)) = rowP xs d (i + 1) := by
  refine list_ext_nth (by simp [rowP_len]) fun k hk => ?_
  have hk' : k < 16 := by simpa [rowP_len] using hk
  rw [nth_set _ (by rw [rowP_len]; omega), rowP_nth hk', rowP_nth hk']
  by_cases h : k = d - i
  · rw [if_pos h, if_pos (by omega), h, show d - (d - i) = i by omega]
  · rw [if_neg h]
    by_cases h2 : d < k + i ∧ k ≤ d
    · rw [if_pos h2, if_pos (by omega)]
    · rw [if_neg h2, if_neg (by omega)]
theorem rowP_zero (xs : List Int) (d : Nat) : arrD (rowP xs d 0) = zero16 := by
  have h : ∀ k, k < 16 → nth (rowP xs d 0) k = 0 := fun k hk => by rw [rowP_nth hk, if_neg (by omega)]
  simp only [arrD, h 0 (by omega), h 1 (by omega), h 2 (by omega), h 3 (by omega), h 4 (by omega), h 5 (by omega), h 6 (by omega), h 7 (by omega), h 8 (by omega), h 9 (by omega), h 10 (by omega), h 11 (by omega), h 12 (by omega), h 13 (by omega), h 14 (by omega), h 15 (by omega)]
theorem rowP_all {xs : List Int} {d : Nat} (hd : d ≤ 15) (k : Nat) : nth (rowP xs d (d + 1)) k = nth (sopN xs d (d + 1)) k := by
  by_cases hk : k < d + 1
  · rw [rowP_nth (by omega), sopN_nth hk, if_pos (by omega)]
  · rw [nth_out (xs := sopN xs d (d + 1)) (by rw [sopN_len]; omega)]
    by_cases h16 : k < 16
    · rw [rowP_nth h16, if_neg (by omega)]
    · rw [nth_out (by rw [rowP_len]; omega)]
end Go.Proofs.YtdiiaallklkomaaDoor

/-
  Shapes in a box and their permutations, on both sides. Conditions: lengths below 2^40.
-/

namespace Go.Proofs.YtdiiaallklkomaaDoor
open Go.RowKit

/-- Is the list a shape in the box of k and m. -/
def boxP (xs : List Int) (k m : Int) : Prop := 1 ≤ m ∧ m ≤ 7 ∧ 0 ≤ k ∧ k ≤ m ∧ isShapeP xs ∧ (xs.length : Int) ≤ k ∧ nth xs 0 ≤ m - k
def boxB (xs : List Int) (k m : Int) : Bool := decide (1 ≤ m) && decide (m ≤ 7) && decide (0 ≤ k) && decide (k ≤ m) && isShapeB xs && decide ((xs.length : Int) ≤ k) && decide (nth xs 0 ≤ m - k)
theorem boxB_iff (xs : List Int) (k m : Int) : boxB xs k m = true ↔ boxP xs k m := by simp [boxB, boxP, and_assoc, isShapeB_iff]
theorem boxB_P {xs : List Int} {k m : Int} (h : boxB xs k m = true) : boxP xs k m := (boxB_iff _ _ _).1 h
theorem boxB_true {xs : List Int} {k m : Int} (h : boxP xs k m) : boxB xs k m = true := (boxB_iff _ _ _).2 h
theorem boxB_false {xs : List Int} {k m : Int} (h : ¬ boxP xs k m) : boxB xs k m = false := by
  cases hb : boxB xs k m with
  | false => rfl
  | true => exact absurd (boxB_P hb) h
end Go.Proofs.YtdiiaallklkomaaDoor

/-
  The permutation of a shape in a box, on both sides. Conditions: lengths below 2^40.
-/

namespace Go.Proofs.YtdiiaallklkomaaDoor
open Go.RowKit

/-- The first i numbers of the permutation. -/
def gF (xs : List Int) (k i : Nat) : List Int := (List.range i).map fun (j : Nat) => (j : Int) + nth xs (k - 1 - j)
theorem gF_len (xs : List Int) (k i : Nat) : (gF xs k i).length = i := by simp [gF]
theorem gF_succ (xs : List Int) (k i : Nat) : gF xs k (i + 1) = gF xs k i ++ [(i : Int) + nth xs (k - 1 - i)] := by simp [gF, List.range_succ]
/-- Those below v that are not among them. -/
def gR (F : List Int) : Nat → List Int
  | 0 => []
  | v + 1 => if hasB F (v : Int) = true then gR F v else gR F v ++ [(v : Int)]
theorem gR_len (F : List Int) : ∀ v, (gR F v).length ≤ v
  | 0 => Nat.le_refl _
  | v + 1 => by
    have := gR_len F v
    unfold gR
    split
    · omega
    · rw [List.length_append]; simp; omega
theorem gR_lt (F : List Int) : ∀ v : Nat, ∀ x ∈ gR F v, x < (v : Int)
  | 0, x, hx => by simp [gR] at hx
  | v + 1, x, hx => by
    unfold gR at hx
    split at hx
    · have := gR_lt F v x hx; omega
    · rcases List.mem_append.1 hx with hx | hx
      · have := gR_lt F v x hx; omega
      · rw [List.mem_singleton.1 hx]; omega
theorem gR_has (F : List Int) (v : Nat) : hasB (F ++ gR F v) (v : Int) = hasB F (v : Int) := by
  unfold hasB
  have h : (v : Int) ∉ gR F v := fun h => absurd (gR_lt F v _ h) (by omega)
  exact decide_eq_decide.2 ⟨fun h' => (List.mem_append.1 h').resolve_right h, fun h' => List.mem_append.2 (.inl h')⟩
def gL (xs : List Int) (k m : Nat) : List Int := gF xs k k ++ gR (gF xs k k) m
/-- What GrassmannianPerm answers. -/
def graPerm (xs : List Int) (k m : Int) : List Int := if boxB xs k m = true then gL xs k.toNat m.toNat else []
theorem graPerm_no {xs : List Int} {k m : Int} (h : boxB xs k m = false) : graPerm xs k m = [] := by unfold graPerm; rw [if_neg (by rw [h]; decide)]
theorem graPerm_yes {xs : List Int} {k m : Nat} (h : boxB xs (k : Int) (m : Int) = true) : graPerm xs (k : Int) (m : Int) = gL xs k m := by unfold graPerm; rw [if_pos h, Int.toNat_natCast, Int.toNat_natCast]
theorem graPerm_small (xs : List Int) (k m : Int) : (graPerm xs k m).length ≤ 1099511627775 := by
  unfold graPerm
  split
  · rename_i h
    have hp := boxB_P h
    have := gR_len (gF xs k.toNat k.toNat) m.toNat
    unfold gL
    rw [List.length_append, gF_len]
    have h1 := hp.2.1; have h2 := hp.2.2.2.1
    omega
  · simp
/-- 'make([]int, 0, n)'. -/
theorem wpList_make_cap {ops : Array Oper} {rest : List Oper} {o : Oper} {a : Act} {w : World} {Q : Exit → Act → World → Prop} (hgd : o.guard = none) (l c : Operand) (ho : o.op = .makeSlice 24 l c)
    (n : Nat) (hl : a.eval l = .int .i64 0) (hc : a.eval c = .int .i64 n) (hn : n ≤ 1099511627776)
    (hK : ∀ w', Own w' w.heap.size w'.heap.size (some ⟨w.heap.size, 0, none⟩) 0 n [] → Below w.heap.size w w' → wpList Tryd.prog ops Q rest (a.put o.dst (.slice (some ⟨w.heap.size, 0, none⟩) 0 n)) w') :
    wpList Tryd.prog ops Q (o :: rest) a w := by
  obtain ⟨i0, hi, hz0, hz1, hz2⟩ := info_parts Tryd.infoInt
  refine wpList_make_own w hgd l c 24 ho w.heap.size 3 i0 (.int .i64 0) 1 Tryd.underlying24 hi hz0 hz1 .i64 .i64 n n hl hc rfl (by rw [hz2]; omega) (by unfold maxLen; omega) (Nat.le_refl _) ?_
  intro w1 ho1 hg1
  exact hK w1 (Own.of (by simpa using ho1)) (grow_below hg1 (Nat.le_refl _) (by intro k hk; cases hk))
end Go.Proofs.YtdiiaallklkomaaDoor

/-
  Strings of zeros and ones and their shapes: the model of both sides. No conditions.
-/


namespace Go.Proofs.YtdiiaallklkomaaDoor
open Go.RowKit

/-- Is the list a string. -/
def strP (xs : List Int) : Prop := 1 ≤ xs.length ∧ xs.length ≤ 7 ∧ ∀ k, k < xs.length → 0 ≤ nth xs k ∧ nth xs k ≤ 1
def strB (xs : List Int) : Bool := decide (1 ≤ xs.length) && decide (xs.length ≤ 7) && (List.range xs.length).all fun k => decide (0 ≤ nth xs k ∧ nth xs k ≤ 1)
theorem strB_iff (xs : List Int) : strB xs = true ↔ strP xs := by simp [strB, strP, and_assoc]
theorem strB_P {xs : List Int} (h : strB xs = true) : strP xs := (strB_iff xs).1 h
theorem strB_true {xs : List Int} (h : strP xs) : strB xs = true := (strB_iff xs).2 h
theorem strB_false {xs : List Int} (h : ¬ strP xs) : strB xs = false := by
  cases hb : strB xs with
  | false => rfl
  | true => exact absurd (strB_P hb) h
/-- How many zeros, how many others there are among the first k numbers. -/
def zerN (xs : List Int) : Nat → Nat
  | 0 => 0
  | k + 1 => if nth xs k = 0 then zerN xs k + 1 else zerN xs k
def oneN (xs : List Int) : Nat → Nat
  | 0 => 0
  | k + 1 => if nth xs k = 0 then oneN xs k else oneN xs k + 1
theorem zer_one (xs : List Int) : ∀ k, zerN xs k + oneN xs k = k
  | 0 => rfl
  | k + 1 => by have := zer_one xs k; unfold zerN oneN; split <;> omega
theorem one_le (xs : List Int) : ∀ {j k : Nat}, j ≤ k → oneN xs j ≤ oneN xs k
  | j, 0, h => by obtain rfl : j = 0 := by omega
                  exact Nat.le_refl _
  | j, k + 1, h => by
    by_cases e : j = k + 1
    · subst e; exact Nat.le_refl _
    · have := one_le xs (j := j) (k := k) (by omega)
      have e2 : oneN xs (k + 1) = if nth xs k = 0 then oneN xs k else oneN xs k + 1 := rfl
      rw [e2]
      split <;> omega
theorem sum_one {xs : List Int} : ∀ {k : Nat}, (∀ j, j < k → 0 ≤ nth xs j ∧ nth xs j ≤ 1) → sumN xs k = (oneN xs k : Int)
  | 0, _ => rfl
  | k + 1, h => by
    have h1 := sum_one (k := k) fun j hj => h j (by omega)
    have h2 := h k (by omega)
    have e : sumN xs (k + 1) = sumN xs k + nth xs k := rfl
    have e2 : oneN xs (k + 1) = if nth xs k = 0 then oneN xs k else oneN xs k + 1 := rfl
    rw [e, e2, h1]
    split <;> omega
/-- A row for each one, the last one's first. -/
def shpL (xs : List Int) : Nat → List Int
  | 0 => []
  | k + 1 => if nth xs k = 0 then shpL xs k else (zerN xs k : Int) :: shpL xs k
theorem shpL_zero {xs : List Int} {k : Nat} (h : nth xs k = 0) : shpL xs (k + 1) = shpL xs k := if_pos h
theorem shpL_one {xs : List Int} {k : Nat} (h : nth xs k ≠ 0) : shpL xs (k + 1) = (zerN xs k : Int) :: shpL xs k := if_neg h
theorem zerN_zero {xs : List Int} {k : Nat} (h : nth xs k = 0) : zerN xs (k + 1) = zerN xs k + 1 := if_pos h
theorem zerN_one {xs : List Int} {k : Nat} (h : nth xs k ≠ 0) : zerN xs (k + 1) = zerN xs k := if_neg h
theorem oneN_zero {xs : List Int} {k : Nat} (h : nth xs k = 0) : oneN xs (k + 1) = oneN xs k := if_pos h
theorem oneN_one {xs : List Int} {k : Nat} (h : nth xs k ≠ 0) : oneN xs (k + 1) = oneN xs k + 1 := if_neg h
theorem shpL_len (xs : List Int) : ∀ k, (shpL xs k).length = oneN xs k
  | 0 => rfl
  | k + 1 => by
    by_cases h : nth xs k = 0
    · rw [shpL_zero h, oneN_zero h, shpL_len xs k]
    · rw [shpL_one h, oneN_one h, List.length_cons, shpL_len xs k]
theorem nth_cons0 (x : Int) (l : List Int) : nth (x :: l) 0 = x := rfl
theorem nth_consS (x : Int) (l : List Int) (j : Nat) : nth (x :: l) (j + 1) = nth l j := by simp [nth, List.getD]
theorem shpL_range (xs : List Int) : ∀ k j, 0 ≤ nth (shpL xs k) j ∧ nth (shpL xs k) j ≤ (zerN xs k : Int)
  | 0, j => by simp [shpL, nth, zerN]
  | k + 1, j => by
    have ih := shpL_range xs k
    by_cases h : nth xs k = 0
    · rw [shpL_zero h, zerN_zero h]
      have := ih j
      omega
    · rw [shpL_one h, zerN_one h]
      cases j with
      | zero => rw [nth_cons0]; omega
      | succ j => rw [nth_consS]; exact ih j
theorem shpL_down (xs : List Int) : ∀ k i j, i ≤ j → nth (shpL xs k) j ≤ nth (shpL xs k) i
  | 0, i, j, _ => by simp [shpL, nth]
  | k + 1, i, j, hij => by
    have ih := shpL_down xs k
    by_cases h : nth xs k = 0
    · rw [shpL_zero h]; exact ih i j hij
    · rw [shpL_one h]
      cases i with
      | zero =>
        rw [nth_cons0]
        cases j with
        | zero => rw [nth_cons0]; exact Int.le_refl _
        | succ j => rw [nth_consS]; exact (shpL_range xs k j).2
      | succ i =>
        cases j with
        | zero => omega
        | succ j => rw [nth_consS, nth_consS]; exact ih i j (by omega)
/-- The sixteen places when j numbers are read: n numbers in all. -/
def rowL (xs : List Int) (n j : Nat) : List Int := List.replicate (oneN xs n - oneN xs j) 0 ++ (shpL xs j ++ List.replicate (16 - oneN xs n) 0)
theorem rowL_len {xs : List Int} {n j : Nat} (hj : j ≤ n) (hn : n ≤ 16) : (rowL xs n j).length = 16 := by
  have h1 := one_le xs hj
  have h2 := zer_one xs n
  unfold rowL
  rw [List.length_append, List.length_append, List.length_replicate, List.length_replicate, shpL_len]
  omega
theorem rowL_start {xs : List Int} {n : Nat} (hn : n ≤ 16) : rowL xs n 0 = List.replicate 16 0 := by
  have h2 := zer_one xs n
  show List.replicate (oneN xs n - 0) 0 ++ ([] ++ List.replicate (16 - oneN xs n) 0) = _
  rw [List.nil_append, List.replicate_append_replicate]
  congr 1; omega
theorem rowL_same {xs : List Int} {n j : Nat} (h : nth xs j = 0) : rowL xs n (j + 1) = rowL xs n j := by
  unfold rowL; rw [shpL_zero h, oneN_zero h]
theorem rowL_set {xs : List Int} {n j : Nat} (hj : j < n) (h : nth xs j ≠ 0) : (rowL xs n j).set (oneN xs n - oneN xs j - 1) (zerN xs j : Int) = rowL xs n (j + 1) := by
  have h1 := one_le xs (j := j + 1) (k := n) hj
  rw [oneN_one h] at h1
  unfold rowL
  rw [shpL_one h, oneN_one h]
  have e : oneN xs n - oneN xs j = (oneN xs n - (oneN xs j + 1)) + 1 := by omega
  rw [e, List.replicate_succ', Nat.add_sub_cancel, List.append_assoc, List.set_append_right _ _ (by simp)]
  simp
theorem rowL_end (xs : List Int) (n : Nat) : rowL xs n n = shpL xs n ++ List.replicate (16 - oneN xs n) 0 := by unfold rowL; simp
theorem rowL_nth (xs : List Int) (n k : Nat) : nth (rowL xs n n) k = nth (shpL xs n) k := by
  rw [rowL_end]
  by_cases h : k < (shpL xs n).length
  · simp [nth, List.getD, List.getElem?_append, h]
  · rw [nth_out (xs := shpL xs n) (by omega)]
    unfold nth
    rw [List.getD_eq_getElem?_getD, List.getElem?_append_right (by omega), List.getElem?_replicate]
    split <;> rfl
/-- The rows of a string. -/
def bareS (xs : List Int) (n : Nat) : List Int := (shpL xs n).take (bareN (shpL xs n) (oneN xs n))
/-- What ShapeOfString answers. -/
def sosS (xs : List Int) : List Int := if strB xs = true then bareS xs xs.length else []
def sosK (xs : List Int) : Int := if strB xs = true then (oneN xs xs.length : Int) else 0
theorem sos_no {xs : List Int} (h : strB xs = false) : sosS xs = [] ∧ sosK xs = 0 := by unfold sosS sosK; rw [if_neg (by rw [h]; decide), if_neg (by rw [h]; decide)]; exact ⟨rfl, rfl⟩
theorem sos_yes {xs : List Int} (h : strB xs = true) : sosS xs = bareS xs xs.length ∧ sosK xs = (oneN xs xs.length : Int) := by unfold sosS sosK; rw [if_pos h, if_pos h]; exact ⟨rfl, rfl⟩
theorem sosS_small (xs : List Int) : (sosS xs).length ≤ 1099511627775 := by
  unfold sosS
  split
  · rename_i h
    have h7 := (strB_P h).2.1
    have h1 := zer_one xs xs.length
    unfold bareS
    rw [List.length_take, shpL_len]
    omega
  · simp
/-- The string of a shape when i ones are written. -/
def soF (xs : List Int) (k m : Nat) : Nat → List Int
  | 0 => List.replicate m 0
  | i + 1 => (soF xs k m i).set ((i : Int) + nth xs (k - 1 - i)).toNat 1
theorem soF_len (xs : List Int) (k m : Nat) : ∀ i, (soF xs k m i).length = m
  | 0 => by simp [soF]
  | i + 1 => by unfold soF; rw [List.length_set]; exact soF_len xs k m i
/-- What StringOfShape answers. -/
def strOf (xs : List Int) (k m : Int) : List Int := if boxB xs k m = true then soF xs k.toNat m.toNat k.toNat else []
theorem strOf_no {xs : List Int} {k m : Int} (h : boxB xs k m = false) : strOf xs k m = [] := by unfold strOf; rw [if_neg (by rw [h]; decide)]
theorem strOf_yes {xs : List Int} {k m : Nat} (h : boxB xs (k : Int) (m : Int) = true) : strOf xs (k : Int) (m : Int) = soF xs k m k := by unfold strOf; rw [if_pos h, Int.toNat_natCast, Int.toNat_natCast]
theorem strOf_small (xs : List Int) (k m : Int) : (strOf xs k m).length ≤ 1099511627775 := by
  unfold strOf
  split
  · rename_i h
    have hp := boxB_P h
    rw [soF_len]
    have := hp.2.1
    omega
  · simp
theorem box_place {xs : List Int} {k m i : Nat} (hp : boxP xs (k : Int) (m : Int)) (hi : i < k) : 0 ≤ (i : Int) + nth xs (k - 1 - i) ∧ (i : Int) + nth xs (k - 1 - i) < (m : Int) := by
  have hs := hp.2.2.2.2.1
  have h0 := (shape_range hs (k - 1 - i)).1
  have h1 : ∀ t, nth xs t ≤ (m : Int) - (k : Int) := by
    intro t
    induction t with
    | zero => exact hp.2.2.2.2.2.2
    | succ t ih =>
      by_cases h : t + 1 < xs.length
      · have h2 := (hs.2 (t + 1) h).2
        have e : prevS xs (t + 1) = nth xs t := rfl
        omega
      · rw [nth_out (by omega)]
        have := hp.2.2.2.1
        omega
  have := h1 (k - 1 - i)
  omega
end Go.Proofs.YtdiiaallklkomaaDoor

/-
  Puzzles: the model of both sides. No conditions.
-/

namespace Go.Proofs.YtdiiaallklkomaaDoor
open Go.RowKit

/-- The number of small triangles above a row. -/
def tri : Nat → Nat
  | 0 => 0
  | r + 1 => tri r + (r + 1)
theorem tri_succ (r : Nat) : tri (r + 1) = tri r + (r + 1) := rfl
theorem tri_le : ∀ {a b : Nat}, a ≤ b → tri a ≤ tri b
  | a, 0, h => by obtain rfl : a = 0 := by omega
                  exact Nat.le_refl _
  | a, b + 1, h => by
    by_cases e : a = b + 1
    · subst e; exact Nat.le_refl _
    · have := tri_le (a := a) (b := b) (by omega)
      rw [tri_succ]; omega
theorem tri_lt {a b k : Nat} (h : a < b) (hk : k ≤ a) : tri a + k < tri b := by
  have := tri_le (a := a + 1) (b := b) h
  rw [tri_succ] at this
  omega
theorem tri_small {r : Nat} (h : r ≤ 8) : tri r ≤ 36 := by
  have := tri_le (a := r) (b := 8) h
  have e : tri 8 = 36 := rfl
  omega
abbrev Tr := Int × Int × Int
/-- The right triples, in ascending order. -/
def rightL (wt : Bool) : List Tr := if wt then [(0, 0, 0), (0, 1, 2), (1, 0, 3), (1, 1, 1), (1, 2, 0), (2, 0, 1)] else [(0, 0, 0), (0, 1, 2), (1, 1, 1), (1, 2, 0), (2, 0, 1)]
/-- The small triangle k of a row, and the one on its tip ahead of it. -/
def triA (x1 x2 x3 : List Int) (r k : Nat) : Tr := (nth x1 (tri r + k), nth x2 (tri r + k), nth x3 (tri r + k))
def tipA (x1 x2 x3 : List Int) (r k : Nat) : Tr := (nth x1 (tri r + k), nth x2 (tri r + k - 1), nth x3 (tri (r - 1) + (k - 1)))
/-- The lists have the right lengths. -/
def lensP (s : Int) (x1 x2 x3 : List Int) : Prop := 1 ≤ s ∧ s ≤ 7 ∧ x1.length = tri s.toNat ∧ x2.length = tri s.toNat ∧ x3.length = tri s.toNat
def lensB (s : Int) (x1 x2 x3 : List Int) : Bool := decide (1 ≤ s) && decide (s ≤ 7) && decide (x1.length = tri s.toNat) && decide (x2.length = tri s.toNat) && decide (x3.length = tri s.toNat)
theorem lensB_iff (s : Int) (x1 x2 x3 : List Int) : lensB s x1 x2 x3 = true ↔ lensP s x1 x2 x3 := by simp [lensB, lensP, and_assoc]
/-- The sides of the whole triangle have no label but 0 and 1 in row r. -/
def sideP (m : Nat) (x1 x2 x3 : List Int) (r : Nat) : Prop :=
  (0 ≤ nth x1 (tri r) ∧ nth x1 (tri r) ≤ 1) ∧ (0 ≤ nth x2 (tri r + r) ∧ nth x2 (tri r + r) ≤ 1) ∧ (0 ≤ nth x3 (tri (m - 1) + r) ∧ nth x3 (tri (m - 1) + r) ≤ 1)
/-- Is it a puzzle (a weighted one). -/
def pzP (wt : Bool) (s : Int) (x1 x2 x3 : List Int) : Prop :=
  lensP s x1 x2 x3 ∧ (∀ r, r < s.toNat → ∀ k, k ≤ r → triA x1 x2 x3 r k ∈ rightL wt ∧ (0 < k → tipA x1 x2 x3 r k ∈ rightL wt)) ∧ ∀ r, r < s.toNat → sideP s.toNat x1 x2 x3 r
instance (m : Nat) (x1 x2 x3 : List Int) (r : Nat) : Decidable (sideP m x1 x2 x3 r) := by unfold sideP; infer_instance
def pzB (wt : Bool) (s : Int) (x1 x2 x3 : List Int) : Bool :=
  lensB s x1 x2 x3 && ((List.range s.toNat).all fun r => (List.range (r + 1)).all fun k => decide (triA x1 x2 x3 r k ∈ rightL wt) && (decide (k = 0) || decide (tipA x1 x2 x3 r k ∈ rightL wt))) && (List.range s.toNat).all fun r => decide (sideP s.toNat x1 x2 x3 r)
theorem pzB_iff (wt : Bool) (s : Int) (x1 x2 x3 : List Int) : pzB wt s x1 x2 x3 = true ↔ pzP wt s x1 x2 x3 := by
  unfold pzB pzP
  rw [Bool.and_eq_true, Bool.and_eq_true, lensB_iff, and_assoc]
  refine and_congr_right fun _ => and_congr ?_ (by simp)
  simp only [List.all_eq_true, List.mem_range, Bool.and_eq_true, Bool.or_eq_true, decide_eq_true_eq]
  constructor
  · intro h r hr k hk
    obtain ⟨h1, h2⟩ := h r hr k (by omega)
    exact ⟨h1, fun hk0 => h2.resolve_left (by omega)⟩
  · intro h r hr k hk
    obtain ⟨h1, h2⟩ := h r hr k (by omega)
    refine ⟨h1, ?_⟩
    by_cases e : k = 0
    · exact .inl e
    · exact .inr (h2 (by omega))
theorem pzB_true {wt : Bool} {s : Int} {x1 x2 x3 : List Int} (h : pzP wt s x1 x2 x3) : pzB wt s x1 x2 x3 = true := (pzB_iff _ _ _ _ _).2 h
theorem pzB_false {wt : Bool} {s : Int} {x1 x2 x3 : List Int} (h : ¬ pzP wt s x1 x2 x3) : pzB wt s x1 x2 x3 = false := by
  cases hb : pzB wt s x1 x2 x3 with
  | false => rfl
  | true => exact absurd ((pzB_iff _ _ _ _ _).1 hb) h
/-- The label below two others, and that at the right side of a small triangle on its tip. -/
def upF (l r : Int) (wt : Bool) : Int :=
  if l = r ∧ l ≤ 1 then l else if l = 0 ∧ r = 1 then 2 else if l = 1 ∧ r = 2 then 0 else if l = 2 ∧ r = 0 then 1 else if l = 1 ∧ r = 0 ∧ wt = true then 3 else -1
def dnF (l t : Int) : Int :=
  if l = t ∧ l ≤ 1 then l else if l = 1 ∧ t = 2 then 0 else if l = 2 ∧ t = 0 then 1 else if l = 0 ∧ t = 1 then 2 else if l = 0 ∧ t = 3 then 1 else -1
theorem right_mem {wt : Bool} {l r b : Int} : (l, r, b) ∈ rightL wt ↔ (l = 0 ∧ r = 0 ∧ b = 0 ∨ l = 0 ∧ r = 1 ∧ b = 2 ∨ (wt = true ∧ l = 1 ∧ r = 0 ∧ b = 3) ∨ l = 1 ∧ r = 1 ∧ b = 1 ∨ l = 1 ∧ r = 2 ∧ b = 0 ∨ l = 2 ∧ r = 0 ∧ b = 1) := by
  cases wt <;> simp [rightL]
theorem mem_right {wt : Bool} {l r b : Int} (h : (l, r, b) ∈ rightL wt) : (0 ≤ l ∧ l ≤ 2) ∧ (0 ≤ r ∧ r ≤ 2) ∧ (0 ≤ b ∧ b ≤ 3) ∧ upF l r wt = b := by
  rcases right_mem.1 h with ⟨rfl, rfl, rfl⟩ | ⟨rfl, rfl, rfl⟩ | ⟨rfl, rfl, rfl, rfl⟩ | ⟨rfl, rfl, rfl⟩ | ⟨rfl, rfl, rfl⟩ | ⟨rfl, rfl, rfl⟩ <;> simp [upF]
theorem up_right {wt : Bool} {l r b : Int} (hl : 0 ≤ l ∧ l ≤ 2) (hr : 0 ≤ r ∧ r ≤ 2) (hb : 0 ≤ b) (h : upF l r wt = b) : (l, r, b) ∈ rightL wt := by
  have h1 : l = 0 ∨ l = 1 ∨ l = 2 := by omega
  have h2 : r = 0 ∨ r = 1 ∨ r = 2 := by omega
  rw [right_mem]
  rcases h1 with rfl | rfl | rfl <;> rcases h2 with rfl | rfl | rfl <;> cases wt <;> simp [upF] at h <;> simp <;> omega
theorem tip_right {wt : Bool} {l r b : Int} (h : (l, r, b) ∈ rightL wt) : dnF r b = l := by
  rcases right_mem.1 h with ⟨rfl, rfl, rfl⟩ | ⟨rfl, rfl, rfl⟩ | ⟨rfl, rfl, rfl, rfl⟩ | ⟨rfl, rfl, rfl⟩ | ⟨rfl, rfl, rfl⟩ | ⟨rfl, rfl, rfl⟩ <;> simp [dnF]
theorem right_tip {wt : Bool} {l r b : Int} (hl : 0 ≤ l ∧ l ≤ 2) (hr : 0 ≤ r ∧ r ≤ 2) (hb : 0 ≤ b ∧ b ≤ 3) (hw : b = 3 → wt = true) (h : dnF r b = l) : (l, r, b) ∈ rightL wt := by
  have h1 : r = 0 ∨ r = 1 ∨ r = 2 := by omega
  have h2 : b = 0 ∨ b = 1 ∨ b = 2 ∨ b = 3 := by omega
  rw [right_mem]
  rcases h1 with rfl | rfl | rfl <;> rcases h2 with rfl | rfl | rfl | rfl <;> simp [dnF] at h <;> simp <;> first | omega | (have := hw rfl; simp_all; done) | (simp_all; done)
theorem mem_three {wt : Bool} {l r b : Int} (h : (l, r, b) ∈ rightL wt) (h3 : b = 3) : wt = true := by
  subst h3
  rcases right_mem.1 h with ⟨_, _, h⟩ | ⟨_, _, h⟩ | ⟨h, _⟩ | ⟨_, _, h⟩ | ⟨_, _, h⟩ | ⟨_, _, h⟩ <;> first | exact h | omega
/-- What the document asks at a small triangle. -/
def atP (wt : Bool) (m : Nat) (x1 x2 x3 : List Int) (r k : Nat) : Prop :=
  (0 ≤ nth x1 (tri r + k) ∧ nth x1 (tri r + k) ≤ 2) ∧ (0 ≤ nth x2 (tri r + k) ∧ nth x2 (tri r + k) ≤ 2) ∧ 0 ≤ nth x3 (tri r + k) ∧ upF (nth x1 (tri r + k)) (nth x2 (tri r + k)) wt = nth x3 (tri r + k) ∧
  (k < r → dnF (nth x2 (tri r + k)) (nth x3 (tri (r - 1) + k)) = nth x1 (tri r + (k + 1))) ∧
  (r = m - 1 → nth x3 (tri r + k) ≤ 1) ∧ (k = 0 → nth x1 (tri r + k) ≤ 1) ∧ (k = r → nth x2 (tri r + k) ≤ 1)
theorem at_of_pz {wt : Bool} {s : Int} {x1 x2 x3 : List Int} (h : pzP wt s x1 x2 x3) {r k : Nat} (hr : r < s.toNat) (hk : k ≤ r) : atP wt s.toNat x1 x2 x3 r k := by
  obtain ⟨_, ht, hs⟩ := h
  obtain ⟨h1, h2, h3, h4⟩ := mem_right (ht r hr k hk).1
  refine ⟨h1, h2, h3.1, h4, fun hkr => ?_, fun e => ?_, fun e => ?_, fun e => ?_⟩
  · have h5 := tip_right ((ht r hr (k + 1) (by omega)).2 (by omega))
    have e1 : tri r + (k + 1) - 1 = tri r + k := by omega
    have e2 : k + 1 - 1 = k := by omega
    rw [e1, e2] at h5
    exact h5
  · have h5 := (hs k (by omega)).2.2.2
    rw [e]; exact h5
  · subst e; exact (hs r hr).1.2
  · subst e; exact (hs k hr).2.1.2
theorem pz_of_at {wt : Bool} {s : Int} {x1 x2 x3 : List Int} (hl : lensP s x1 x2 x3) (h : ∀ r, r < s.toNat → ∀ k, k ≤ r → atP wt s.toNat x1 x2 x3 r k) : pzP wt s x1 x2 x3 := by
  have hT : ∀ r, r < s.toNat → ∀ k, k ≤ r → triA x1 x2 x3 r k ∈ rightL wt := fun r hr k hk => by
    obtain ⟨h1, h2, h3, h4, _⟩ := h r hr k hk
    exact up_right h1 h2 h3 h4
  refine ⟨hl, fun r hr k hk => ⟨hT r hr k hk, fun hk0 => ?_⟩, fun r hr => ⟨?_, ?_, ?_⟩⟩
  · obtain ⟨k, rfl⟩ : ∃ j, k = j + 1 := ⟨k - 1, by omega⟩
    have h5 := (h r hr k (by omega)).2.2.2.2.1 (by omega)
    have h6 := hT (r - 1) (by omega) k (by omega)
    obtain ⟨_, _, h7, _⟩ := mem_right h6
    have h8 := h r hr k (by omega)
    have h9 := h r hr (k + 1) hk
    have e1 : tri r + (k + 1) - 1 = tri r + k := by omega
    have e2 : k + 1 - 1 = k := by omega
    unfold tipA
    rw [e1, e2]
    exact right_tip h9.1 h8.2.1 h7 (fun e => mem_three h6 e) h5
  · have h1 := h r hr 0 (by omega)
    exact ⟨h1.1.1, h1.2.2.2.2.2.2.1 rfl⟩
  · have h1 := h r hr r (Nat.le_refl _)
    exact ⟨h1.2.1.1, h1.2.2.2.2.2.2.2 rfl⟩
  · have h1 := h (s.toNat - 1) (by omega) r (by omega)
    exact ⟨h1.2.2.1, h1.2.2.2.2.2.1 rfl⟩
/-- The three sides. -/
def sdA (m : Nat) (x1 : List Int) : List Int := (List.range m).map fun j => nth x1 (tri (m - 1 - j))
def sdB (m : Nat) (x2 : List Int) : List Int := (List.range m).map fun j => nth x2 (tri j + j)
def sdC (m : Nat) (x3 : List Int) : List Int := (List.range m).map fun j => nth x3 (tri (m - 1) + j)
theorem sdA_len (m : Nat) (x : List Int) : (sdA m x).length = m := by simp [sdA]
theorem sdB_len (m : Nat) (x : List Int) : (sdB m x).length = m := by simp [sdB]
theorem sdC_len (m : Nat) (x : List Int) : (sdC m x).length = m := by simp [sdC]
theorem sdA_nth {m : Nat} {x : List Int} {j : Nat} (h : j < m) : nth (sdA m x) j = nth x (tri (m - 1 - j)) := by rw [nth_get (by rw [sdA_len]; exact h)]; simp [sdA]
theorem sdB_nth {m : Nat} {x : List Int} {j : Nat} (h : j < m) : nth (sdB m x) j = nth x (tri j + j) := by rw [nth_get (by rw [sdB_len]; exact h)]; simp [sdB]
theorem sdC_nth {m : Nat} {x : List Int} {j : Nat} (h : j < m) : nth (sdC m x) j = nth x (tri (m - 1) + j) := by rw [nth_get (by rw [sdC_len]; exact h)]; simp [sdC]
theorem side_strings {s : Int} {x1 x2 x3 : List Int} (hl : lensP s x1 x2 x3) : (strP (sdA s.toNat x1) ∧ strP (sdB s.toNat x2) ∧ strP (sdC s.toNat x3)) ↔ ∀ r, r < s.toNat → sideP s.toNat x1 x2 x3 r := by
  have h1 := hl.1
  have h7 := hl.2.1
  constructor
  · rintro ⟨ha, hb, hc⟩ r hr
    have a := ha.2.2 (s.toNat - 1 - r) (by rw [sdA_len]; omega)
    have b := hb.2.2 r (by rw [sdB_len]; omega)
    have c := hc.2.2 r (by rw [sdC_len]; omega)
    rw [sdA_nth (by omega), show s.toNat - 1 - (s.toNat - 1 - r) = r by omega] at a
    rw [sdB_nth hr] at b
    rw [sdC_nth hr] at c
    exact ⟨a, b, c⟩
  · intro h
    refine ⟨⟨by rw [sdA_len]; omega, by rw [sdA_len]; omega, fun k hk => ?_⟩, ⟨by rw [sdB_len]; omega, by rw [sdB_len]; omega, fun k hk => ?_⟩, ⟨by rw [sdC_len]; omega, by rw [sdC_len]; omega, fun k hk => ?_⟩⟩
    · rw [sdA_len] at hk; rw [sdA_nth hk]; exact (h _ (by omega)).1
    · rw [sdB_len] at hk; rw [sdB_nth hk]; exact (h _ hk).2.1
    · rw [sdC_len] at hk; rw [sdC_nth hk]; exact (h _ hk).2.2
end Go.Proofs.YtdiiaallklkomaaDoor

/-
  Terms and polynomials as lists: keys, their order, when a list of terms is a polynomial. Plain lemmas. No conditions.
-/

namespace Go.Proofs.YtdiiaallklkomaaDoor
open Go.RowKit

/-- A term: its exponents and its number. -/
abbrev Tm := List Int × Int
def tm (ts : List Tm) (k : Nat) : Tm := ts.getD k ([], 0)
theorem tm_get {ts : List Tm} {k : Nat} (h : k < ts.length) : tm ts k = ts[k] := by simp [tm, List.getD, h]
theorem tm_get? {ts : List Tm} {k : Nat} (h : k < ts.length) : ts[k]? = some (tm ts k) := by simp [tm, List.getD, h]
theorem take_tm {ts : List Tm} {k : Nat} (h : k < ts.length) : ts.take (k + 1) = ts.take k ++ [tm ts k] := by
  rw [List.take_succ_eq_append_getElem h, tm_get h]
theorem tm_app_lt {ts us : List Tm} {k : Nat} (h : k < ts.length) : tm (ts ++ us) k = tm ts k := by simp [tm, List.getD, List.getElem?_append, h]
theorem tm_app_at {ts : List Tm} {t : Tm} : tm (ts ++ [t]) ts.length = t := by simp [tm, List.getD]
theorem tm_ext {ts us : List Tm} (hl : ts.length = us.length) (h : ∀ j, j < ts.length → tm ts j = tm us j) : ts = us := by
  apply List.ext_getElem hl
  intro j h1 h2
  have := h j h1
  rwa [tm_get h1, tm_get h2] at this

/-- The key of exponents: seven bits for each, the last in front. -/
def key7 (e : List Int) : Int := e.foldr (fun x k => k * 128 + x) 0
theorem key7_drop {e : List Int} {i : Nat} (h : i < e.length) : key7 (e.drop i) = key7 (e.drop (i + 1)) * 128 + nth e i := by
  rw [List.drop_eq_getElem_cons h, nth_get h]; rfl
/-- All exponents are from 0 to 24. -/
def smallE (e : List Int) : Bool := e.all fun x => decide (0 ≤ x ∧ x ≤ 24)
theorem smallE_nth {e : List Int} (h : smallE e = true) {k : Nat} (hk : k < e.length) : 0 ≤ nth e k ∧ nth e k ≤ 24 := by
  rw [nth_get hk]
  have := List.all_eq_true.1 h _ (List.getElem_mem hk)
  simpa using this
theorem smallE_all {e : List Int} (h : ∀ k, k < e.length → 0 ≤ nth e k ∧ nth e k ≤ 24) : smallE e = true := by
  apply List.all_eq_true.2
  intro x hx
  obtain ⟨k, hk, rfl⟩ := List.getElem_of_mem hx
  have := h k hk
  rw [nth_get hk] at this
  simpa using this
theorem smallE_no {e : List Int} {k : Nat} (hk : k < e.length) (h : nth e k < 0 ∨ 24 < nth e k) : smallE e = false := by
  cases hb : smallE e with
  | false => rfl
  | true => have := smallE_nth hb hk; omega
theorem key7_bound : ∀ (e : List Int), (∀ k, k < e.length → 0 ≤ nth e k ∧ nth e k ≤ 24) → 0 ≤ key7 e ∧ key7 e < 128 ^ e.length
  | [], _ => by simp [key7]
  | x :: e, h => by
    have ih := key7_bound e (fun k hk => by have := h (k + 1) (by simp; omega); simpa [nth] using this)
    have h0 := h 0 (by simp)
    have h1 : nth (x :: e) 0 = x := by simp [nth]
    rw [h1] at h0
    have e1 : key7 (x :: e) = key7 e * 128 + x := rfl
    rw [e1, List.length_cons, Int.pow_succ]
    omega
theorem key7_lt : ∀ (a b : List Int) (i : Nat), a.length = b.length → (∀ k, k < a.length → 0 ≤ nth a k ∧ nth a k ≤ 127) → (∀ k, k < b.length → 0 ≤ nth b k ∧ nth b k ≤ 127) → i < a.length →
    (∀ j, i < j → j < a.length → nth a j = nth b j) → nth a i < nth b i → key7 a < key7 b
  | [], _, i, _, _, _, hi, _, _ => absurd hi (by simp)
  | x :: a, [], i, hl, _, _, _, _, _ => absurd hl (by simp)
  | x :: a, y :: b, 0, hl, ha, hb, hi, he, hx => by
    have e1 : key7 (x :: a) = key7 a * 128 + x := rfl
    have e2 : key7 (y :: b) = key7 b * 128 + y := rfl
    have e3 : a = b := by
      apply List.ext_getElem (by simpa using hl)
      intro j h1 h2
      have := he (j + 1) (by omega) (by simp; omega)
      simpa [nth, h1, h2] using this
    have h0 : x < y := by simpa [nth] using hx
    rw [e1, e2, e3]
    omega
  | x :: a, y :: b, i + 1, hl, ha, hb, hi, he, hx => by
    have e1 : key7 (x :: a) = key7 a * 128 + x := rfl
    have e2 : key7 (y :: b) = key7 b * 128 + y := rfl
    have ih := key7_lt a b i (by simpa using hl) (fun k hk => by have := ha (k + 1) (by simp; omega); simpa [nth] using this) (fun k hk => by have := hb (k + 1) (by simp; omega); simpa [nth] using this) (by simpa using hi)
      (fun j h1 h2 => by have := he (j + 1) (by omega) (by simp; omega); simpa [nth] using this) (by simpa [nth] using hx)
    have ha0 := ha 0 (by simp)
    have hb0 := hb 0 (by simp)
    have h1 : nth (x :: a) 0 = x := by simp [nth]
    have h2 : nth (y :: b) 0 = y := by simp [nth]
    rw [h1] at ha0
    rw [h2] at hb0
    rw [e1, e2]
    omega

/-- A term with seven exponents from 0 to 24 and a number other than 0 of at most a million. -/
def goodT (t : Tm) : Bool := decide (t.1.length = 7) && smallE t.1 && decide (t.2 ≠ 0 ∧ -1000000 ≤ t.2 ∧ t.2 ≤ 1000000)
theorem goodT_iff (t : Tm) : goodT t = true ↔ t.1.length = 7 ∧ smallE t.1 = true ∧ t.2 ≠ 0 ∧ -1000000 ≤ t.2 ∧ t.2 ≤ 1000000 := by
  simp [goodT, and_assoc]
theorem goodT_no {t : Tm} (h : ¬ (t.1.length = 7 ∧ smallE t.1 = true ∧ t.2 ≠ 0 ∧ -1000000 ≤ t.2 ∧ t.2 ≤ 1000000)) : goodT t = false := by
  cases hb : goodT t with
  | false => rfl
  | true => exact absurd ((goodT_iff t).1 hb) h
/-- Term k is good and stands behind the one ahead of it. -/
def okAt (ts : List Tm) (k : Nat) : Bool := goodT (tm ts k) && (decide (k = 0) || decide (key7 (tm ts k).1 < key7 (tm ts (k - 1)).1))
def polyB (ts : List Tm) : Bool := decide (ts.length ≤ 600) && (List.range ts.length).all fun k => okAt ts k
theorem polyB_big {ts : List Tm} (h : 600 < ts.length) : polyB ts = false := by simp [polyB]; omega
theorem polyB_all {ts : List Tm} (h : ts.length ≤ 600) (hk : ∀ k, k < ts.length → okAt ts k = true) : polyB ts = true := by
  simp only [polyB, Bool.and_eq_true, decide_eq_true_eq, List.all_eq_true, List.mem_range]
  exact ⟨h, hk⟩
theorem polyB_len {ts : List Tm} (h : polyB ts = true) : ts.length ≤ 600 := by
  simp only [polyB, Bool.and_eq_true, decide_eq_true_eq] at h
  exact h.1
theorem polyB_ok {ts : List Tm} (h : polyB ts = true) {k : Nat} (hk : k < ts.length) : okAt ts k = true := by
  simp only [polyB, Bool.and_eq_true, decide_eq_true_eq, List.all_eq_true, List.mem_range] at h
  exact h.2 k hk
theorem polyB_good {ts : List Tm} (h : polyB ts = true) {k : Nat} (hk : k < ts.length) : goodT (tm ts k) = true := by
  have := polyB_ok h hk
  simp only [okAt, Bool.and_eq_true] at this
  exact this.1
theorem polyB_no {ts : List Tm} {k : Nat} (hk : k < ts.length) (h : okAt ts k = false) : polyB ts = false := by
  cases hb : polyB ts with
  | false => rfl
  | true => have := polyB_ok hb hk; rw [h] at this; cases this
theorem okAt_good {ts : List Tm} {k : Nat} (h : okAt ts k = true) : goodT (tm ts k) = true := by
  simp only [okAt, Bool.and_eq_true] at h
  exact h.1
theorem okAt_bad {ts : List Tm} {k : Nat} (h : goodT (tm ts k) = false) : okAt ts k = false := by simp [okAt, h]
theorem okAt_zero {ts : List Tm} (h : goodT (tm ts 0) = true) : okAt ts 0 = true := by simp [okAt, h]
theorem okAt_step {ts : List Tm} {k : Nat} (h : goodT (tm ts k) = true) (hk : key7 (tm ts k).1 < key7 (tm ts (k - 1)).1) : okAt ts k = true := by simp [okAt, h, hk]
theorem okAt_wrong {ts : List Tm} {k : Nat} (h0 : 0 < k) (hk : ¬ key7 (tm ts k).1 < key7 (tm ts (k - 1)).1) : okAt ts k = false := by
  have : k ≠ 0 := by omega
  simp [okAt, hk, this]
end Go.Proofs.YtdiiaallklkomaaDoor

/-
  Slices of terms in memory: how they read, and slices of terms that a call owns. Plain lemmas. No conditions.
-/


namespace Go.Proofs.YtdiiaallklkomaaDoor
open Go.RowKit

/-- The slice (A, n) reads as the terms ts. -/
def TS (w : World) (A : Option Addr) (n : Nat) (ts : List Tm) : Prop :=
  ts.length = n ∧ (0 < n → ∃ b o, A = some ⟨b, o, none⟩ ∧ b < w.heap.size ∧ ∀ k, k < n → ∃ A' n' c', w.cell? ⟨b, o + k * 2, none⟩ = some (.slice A' n' c') ∧
    w.cell? ⟨b, o + k * 2 + 1, none⟩ = some (.int .i64 (tm ts k).2) ∧ SI w A' n' (tm ts k).1 ∧ n' ≤ c' ∧ (A' = none → n' = 0 ∧ c' = 0))
section
variable {w w' : World} {A : Option Addr} {n : Nat} {ts : List Tm}
theorem TS.nil (w : World) (A : Option Addr) : TS w A 0 [] := ⟨rfl, fun h => absurd h (by omega)⟩
theorem TS.at_ (h : TS w A n ts) {k : Nat} (hk : k < n) : ∃ b o A' n' c', A = some ⟨b, o, none⟩ ∧ b < w.heap.size ∧ w.cell? ⟨b, o + k * 2, none⟩ = some (.slice A' n' c') ∧
    w.cell? ⟨b, o + k * 2 + 1, none⟩ = some (.int .i64 (tm ts k).2) ∧ SI w A' n' (tm ts k).1 ∧ n' ≤ c' ∧ (A' = none → n' = 0 ∧ c' = 0) := by
  obtain ⟨b, o, e, hb, hc⟩ := h.2 (by omega)
  obtain ⟨A', n', c', h1⟩ := hc k hk
  exact ⟨b, o, A', n', c', e, hb, h1⟩
theorem TS.below {B : Nat} (h : TS w A n ts) (hb : Below B w w') (hB : w.heap.size ≤ B) : TS w' A n ts :=
  ⟨h.1, fun hn => by
    obtain ⟨b, o, e, hl, hc⟩ := h.2 hn
    have hs := hb.size
    refine ⟨b, o, e, by omega, fun k hk => ?_⟩
    obtain ⟨A', n', c', h1, h2, h3, h4⟩ := hc k hk
    exact ⟨A', n', c', (hb.cell (p := ⟨b, o + k * 2, none⟩) (by show b < B; omega)).trans h1, (hb.cell (p := ⟨b, o + k * 2 + 1, none⟩) (by show b < B; omega)).trans h2, h3.below hb hB, h4⟩⟩
theorem TS.drewN (h : TS w A n ts) (k : Nat) : TS (w.drewN k) A n ts := h
theorem TS.drawn (h : TS w A n ts) (hd : Drawn w w') : TS w' A n ts := by obtain ⟨m, rfl⟩ := hd; exact h
theorem TS.alloc (h : TS w A n ts) (o : Obj) : TS (w.alloc o) A n ts := h.below ((Below.refl w.heap.size w).alloc (Nat.le_refl _) o) (Nat.le_refl _)
end

/-- A list of pairs of cells. -/
def cells2 (n : Nat) (f : Nat → Value × Value) : List Value := (List.range (n * 2)).map fun j => if j % 2 = 0 then (f (j / 2)).1 else (f (j / 2)).2
theorem cells2_len (n : Nat) (f : Nat → Value × Value) : (cells2 n f).length = n * 2 := by simp [cells2]
theorem cells2_get {n : Nat} (f : Nat → Value × Value) {j : Nat} (h : j < n * 2) : (cells2 n f)[j]? = some (if j % 2 = 0 then (f (j / 2)).1 else (f (j / 2)).2) := by
  simp [cells2, h]
theorem cells2_get0 {n : Nat} (f : Nat → Value × Value) {k : Nat} (h : k < n) : (cells2 n f)[k * 2]? = some (f k).1 := by
  rw [cells2_get f (by omega), if_pos (by omega), show k * 2 / 2 = k by omega]
theorem cells2_get1 {n : Nat} (f : Nat → Value × Value) {k : Nat} (h : k < n) : (cells2 n f)[k * 2 + 1]? = some (f k).2 := by
  rw [cells2_get f (by omega), if_neg (by omega), show (k * 2 + 1) / 2 = k by omega]
theorem cells2_congr {n : Nat} {f g : Nat → Value × Value} (h : ∀ k, k < n → f k = g k) : cells2 n f = cells2 n g := by
  apply List.map_congr_left
  intro j hj
  have := List.mem_range.1 hj
  rw [h (j / 2) (by omega)]
theorem cells2_set0 {n : Nat} (f : Nat → Value × Value) {k : Nat} (_h : k < n) (v : Value) : (cells2 n f).set (k * 2) v = cells2 n (fun j => if j = k then (v, (f j).2) else f j) := by
  apply List.ext_getElem?
  intro j
  by_cases hj : j < n * 2
  · rw [cells2_get _ hj]
    by_cases e : j = k * 2
    · subst e
      rw [List.getElem?_set_self (by rw [cells2_len]; omega), if_pos (by omega), show k * 2 / 2 = k by omega, if_pos rfl]
    · rw [List.getElem?_set_ne (by omega), cells2_get _ hj]
      by_cases e2 : j / 2 = k
      · rw [if_neg (by omega), if_neg (by omega), if_pos e2]
      · rw [if_neg e2]
  · rw [List.getElem?_eq_none (by simp [cells2_len]; omega), List.getElem?_eq_none (by simp [cells2_len]; omega)]
theorem cells2_set1 {n : Nat} (f : Nat → Value × Value) {k : Nat} (_h : k < n) (v : Value) : (cells2 n f).set (k * 2 + 1) v = cells2 n (fun j => if j = k then ((f j).1, v) else f j) := by
  apply List.ext_getElem?
  intro j
  by_cases hj : j < n * 2
  · rw [cells2_get _ hj]
    by_cases e : j = k * 2 + 1
    · subst e
      rw [List.getElem?_set_self (by rw [cells2_len]; omega), if_neg (by omega), show (k * 2 + 1) / 2 = k by omega, if_pos rfl]
    · rw [List.getElem?_set_ne (by omega), cells2_get _ hj]
      by_cases e2 : j / 2 = k
      · rw [if_pos (by omega), if_pos (by omega), if_pos e2]
      · rw [if_neg e2]
  · rw [List.getElem?_eq_none (by simp [cells2_len]; omega), List.getElem?_eq_none (by simp [cells2_len]; omega)]
theorem cells2_app (n : Nat) (f : Nat → Value × Value) (a b : Value) : cells2 n f ++ [a, b] = cells2 (n + 1) (fun j => if j = n then (a, b) else f j) := by
  apply List.ext_getElem?
  intro j
  by_cases hj : j < n * 2
  · rw [List.getElem?_append_left (by rw [cells2_len]; exact hj), cells2_get _ hj, cells2_get _ (by omega), if_neg (show ¬ j / 2 = n by omega)]
  · rw [List.getElem?_append_right (by rw [cells2_len]; omega), cells2_len]
    by_cases h1 : j = n * 2
    · subst h1
      rw [cells2_get _ (by omega), if_pos (by omega), if_pos (by omega)]; simp
    · by_cases h2 : j = n * 2 + 1
      · subst h2
        rw [cells2_get _ (by omega), if_neg (by omega), if_pos (by omega)]; simp
      · rw [List.getElem?_eq_none (by simp; omega), List.getElem?_eq_none (by simp [cells2_len]; omega)]

abbrev Sv := Option Addr × Nat × Nat
def sv (e : Sv) : Value := .slice e.1 e.2.1 e.2.2
section
variable {w w' : World} {lo hi n c : Nat} {A : Option Addr} {ts : List Tm}
theorem Own.nilcap {xs : List Int} (h : Own w lo hi none n c xs) : n = 0 ∧ c = 0 := by
  rcases h.1.2 with ⟨e, h0⟩ | ⟨g, cap, cur, e, _⟩
  · injection e with _ _ e3; exact ⟨h0, e3⟩
  · injection e with e1; cases e1
end
/-- Nothing outside lo .. hi was changed. -/
def Within (lo hi : Nat) (w w' : World) : Prop := w'.os = w.os ∧ w'.tape = w.tape ∧ w'.output = w.output ∧ w.heap.size ≤ w'.heap.size ∧ ∀ k, k < w.heap.size → k < lo ∨ hi ≤ k → w'.heap[k]? = w.heap[k]?
theorem Within.refl (lo hi : Nat) (w : World) : Within lo hi w w := ⟨rfl, rfl, rfl, Nat.le_refl _, fun _ _ _ => rfl⟩
theorem Within.trans {lo hi : Nat} {w w' w'' : World} (h : Within lo hi w w') (h' : Within lo hi w' w'') : Within lo hi w w'' :=
  ⟨h'.1.trans h.1, h'.2.1.trans h.2.1, h'.2.2.1.trans h.2.2.1, Nat.le_trans h.2.2.2.1 h'.2.2.2.1, fun k h0 hk => (h'.2.2.2.2 k (Nat.lt_of_lt_of_le h0 h.2.2.2.1) hk).trans (h.2.2.2.2 k h0 hk)⟩
theorem Within.size {lo hi : Nat} {w w' : World} (h : Within lo hi w w') : w.heap.size ≤ w'.heap.size := h.2.2.2.1
theorem Within.below {lo hi B : Nat} {w w' : World} (h : Within lo hi w w') (hB : B ≤ lo) (hB' : B ≤ w.heap.size) : Below B w w' :=
  ⟨h.1, h.2.1, h.2.2.1, h.2.2.2.1, fun k hk => h.2.2.2.2 k (by omega) (.inl (by omega))⟩
theorem Within.of_grown {lo hi : Nat} {w w' : World} {row : Option Nat} (hg : w.grownBy w' row) (hr : ∀ g, row = some g → lo ≤ g ∧ g < hi) : Within lo hi w w' :=
  ⟨hg.os, hg.tape, hg.output, hg.size, fun k h0 hk => hg.block k h0 (fun e => by have := hr k e.symm; omega)⟩
theorem Within.of_drawn {lo hi : Nat} {w w' : World} (h : Drawn w w') : Within lo hi w w' := by obtain ⟨m, rfl⟩ := h; exact ⟨rfl, rfl, rfl, Nat.le_refl _, fun _ _ _ => rfl⟩
theorem Own.within {w w' : World} {lo hi n c lo' hi' : Nat} {A : Option Addr} {xs : List Int} (h : Own w lo hi A n c xs) (hw : Within lo' hi' w w') (hd : hi ≤ lo' ∨ hi' ≤ lo) : Own w' lo hi A n c xs := by
  refine ⟨⟨h.1.1, ?_⟩, h.2⟩
  rcases h.1.2 with hn | ⟨g, cap, cur, e, hl, hg, rest⟩
  · exact .inl hn
  · have hlt := h.2 g (by rw [e]; rfl)
    have hsz := (h.1.lt g (by rw [e]; rfl)).2
    exact .inr ⟨g, cap, cur, e, hl, (hw.2.2.2.2 g hsz (by omega)).trans hg, rest⟩
theorem Own.kept {w w' : World} {lo hi n c : Nat} {A : Option Addr} {xs : List Int} {row : Option Nat} (h : Own w lo hi A n c xs) (hg : w.grownBy w' row) (hne : ∀ g, (Value.slice A n c).ownBlock = some g → row ≠ some g) : Own w' lo hi A n c xs := by
  refine ⟨h.1.kept hg ?_, h.2⟩
  cases hb : (Value.slice A n c).ownBlock with
  | none => exact .inl rfl
  | some g => exact .inr fun e => hne g hb e.symm
theorem tm_set {ts : List Tm} {k j : Nat} (hk : k < ts.length) (t : Tm) : tm (ts.set k t) j = if j = k then t else tm ts j := by
  unfold tm
  rw [List.getD_eq_getElem?_getD, List.getD_eq_getElem?_getD, List.getElem?_set]
  by_cases e : k = j
  · subst e; simp [hk]
  · rw [if_neg e, if_neg (fun h => e h.symm)]
def zeroT (n : Nat) : List Tm := List.replicate n ([], 0)
theorem zeroT_tm (n k : Nat) : tm (zeroT n) k = ([], 0) := by
  unfold tm zeroT
  by_cases h : k < n
  · simp [List.getD, h]
  · simp [List.getD, h]
end Go.Proofs.YtdiiaallklkomaaDoor

/-
  The size of a slice of numbers that came in. Conditions: lengths below 2^63.
-/

namespace Go.Proofs.YtdiiaallklkomaaDoor
open Go.RowKit

set_option maxHeartbeats 400000 in
theorem szIntS_any (A : Option Addr) (n c : Nat) (l : Int) (w : World) (hn : n ≤ 9223372036854775807) (h0 : 0 ≤ l) (h1 : l ≤ 1048576) :
    Calls Tryd.prog 59 #[.slice A n c, .int .i64 l] w fun e w' => e = .returned (.int .i64 (if l < (n : Int) then -1 else l - n)) ∧ w' = w := by
  by_cases h : l < (n : Int)
  · have h' : l - (n : Int) < 0 := by omega
    have hw : IntKind.i64.wrap (l - (n : Int)) = l - (n : Int) := IntWalk.i64_in _ (by omega)
    rw [if_pos h]
    go_enter Tryd.func59, Tryd.ntmps59
    go_wp2
    go_ret
    exact ⟨rfl, rfl⟩
  · have h' : ¬ l - (n : Int) < 0 := by omega
    have hw : IntKind.i64.wrap (l - (n : Int)) = l - (n : Int) := IntWalk.i64_in _ (by omega)
    rw [if_neg h]
    go_enter Tryd.func59, Tryd.ntmps59
    go_wp2
    go_ret
    exact ⟨rfl, rfl⟩
end Go.Proofs.YtdiiaallklkomaaDoor

/-
  Puzzles as values: copying, measuring, comparing, marking, holding. Conditions: lengths below 2^40.
-/



namespace Go.Proofs.YtdiiaallklkomaaDoor
open Go.RowKit

/-- Three slices of the call's own, one behind another. -/
def OwnP (w : World) (lo hi : Nat) (A1 A2 A3 : Option Addr) (n1 c1 n2 c2 n3 c3 : Nat) (x1 x2 x3 : List Int) : Prop :=
  ∃ p q, lo ≤ p ∧ p ≤ q ∧ q ≤ hi ∧ Own w lo p A1 n1 c1 x1 ∧ Own w p q A2 n2 c2 x2 ∧ Own w q hi A3 n3 c3 x3
section
variable {w w' : World} {lo hi n1 c1 n2 c2 n3 c3 : Nat} {A1 A2 A3 : Option Addr} {x1 x2 x3 : List Int}
theorem OwnP.si (h : OwnP w lo hi A1 A2 A3 n1 c1 n2 c2 n3 c3 x1 x2 x3) : SI w A1 n1 x1 ∧ SI w A2 n2 x2 ∧ SI w A3 n3 x3 := by
  obtain ⟨p, q, _, _, _, h1, h2, h3⟩ := h; exact ⟨h1.si, h2.si, h3.si⟩
theorem OwnP.lens (h : OwnP w lo hi A1 A2 A3 n1 c1 n2 c2 n3 c3 x1 x2 x3) : x1.length = n1 ∧ x2.length = n2 ∧ x3.length = n3 := by
  obtain ⟨p, q, _, _, _, h1, h2, h3⟩ := h; exact ⟨h1.len, h2.len, h3.len⟩
theorem OwnP.below {B : Nat} (h : OwnP w lo hi A1 A2 A3 n1 c1 n2 c2 n3 c3 x1 x2 x3) (hb : Below B w w') (hB : hi ≤ B) : OwnP w' lo hi A1 A2 A3 n1 c1 n2 c2 n3 c3 x1 x2 x3 := by
  obtain ⟨p, q, a, b, c, h1, h2, h3⟩ := h
  exact ⟨p, q, a, b, c, h1.below hb (by omega), h2.below hb (by omega), h3.below hb hB⟩
theorem OwnP.drawn (h : OwnP w lo hi A1 A2 A3 n1 c1 n2 c2 n3 c3 x1 x2 x3) (hd : Drawn w w') : OwnP w' lo hi A1 A2 A3 n1 c1 n2 c2 n3 c3 x1 x2 x3 := h.below (hd.below hi) (Nat.le_refl _)
theorem Own.within_ {lo hi n c lo' hi' : Nat} {A : Option Addr} {xs : List Int} (h : Own w lo hi A n c xs) (hw : Within lo' hi' w w') (hd : hi ≤ lo' ∨ hi' ≤ lo) : Own w' lo hi A n c xs := by
  refine ⟨⟨h.1.1, ?_⟩, h.2⟩
  rcases h.1.2 with hn | ⟨g, cap, cur, e, hl, hg, rest⟩
  · exact .inl hn
  · have hlt := h.2 g (by rw [e]; rfl)
    have hsz := (h.1.lt g (by rw [e]; rfl)).2
    exact .inr ⟨g, cap, cur, e, hl, (hw.2.2.2.2 g hsz (by omega)).trans hg, rest⟩
theorem OwnP.within {lo' hi' : Nat} (h : OwnP w lo hi A1 A2 A3 n1 c1 n2 c2 n3 c3 x1 x2 x3) (hw : Within lo' hi' w w') (hd : hi ≤ lo' ∨ hi' ≤ lo) : OwnP w' lo hi A1 A2 A3 n1 c1 n2 c2 n3 c3 x1 x2 x3 := by
  obtain ⟨p, q, a, b, c, h1, h2, h3⟩ := h
  exact ⟨p, q, a, b, c, h1.within_ hw (by omega), h2.within_ hw (by omega), h3.within_ hw (by omega)⟩
theorem OwnP.wide {lo' hi' : Nat} (h : OwnP w lo hi A1 A2 A3 n1 c1 n2 c2 n3 c3 x1 x2 x3) (h1 : lo' ≤ lo) (h2 : hi ≤ hi') : OwnP w lo' hi' A1 A2 A3 n1 c1 n2 c2 n3 c3 x1 x2 x3 := by
  obtain ⟨p, q, a, b, c, k1, k2, k3⟩ := h
  exact ⟨p, q, by omega, b, by omega, k1.wide h1 (Nat.le_refl _), k2, k3.wide (Nat.le_refl _) h2⟩
theorem OwnP.nil (w : World) {lo hi : Nat} (h : lo ≤ hi) : OwnP w lo hi none none none 0 0 0 0 0 0 [] [] [] := ⟨lo, lo, Nat.le_refl _, Nat.le_refl _, h, Own.nil _ _ _, Own.nil _ _ _, Own.nil _ _ _⟩
end
/-- What a call that makes a puzzle hands back. -/
def FreshP (w w' : World) (e : Ending) (s : Int) (x1 x2 x3 : List Int) : Prop :=
  ∃ A1 A2 A3 n1 c1 n2 c2 n3 c3, e = .returned (.agg #[.int .i64 s, .slice A1 n1 c1, .slice A2 n2 c2, .slice A3 n3 c3]) ∧ OwnP w' w.heap.size w'.heap.size A1 A2 A3 n1 c1 n2 c2 n3 c3 x1 x2 x3 ∧ Below w.heap.size w w'
theorem Tryd.infoPz : (Tryd.prog.info? 54).map (·.size) = some 4 := by kernel_rfl
theorem Tryd.infoPzL : (Tryd.prog.info? 51).map (·.size) = some 4 := by kernel_rfl
theorem grown_setP (w : World) (a : Addr) (u : Value) : w.grownBy (w.setCell a u) (some a.block) :=
  ⟨rfl, rfl, rfl, by simp [World.setCell], fun k _ hk => Below.heap_setCell w a u k (fun e => hk (by rw [e]))⟩
theorem results_rowP {P : Program} {fn : Func} {p : Tmp} {ty : TypeId} (h : fn.results = #[.cell p ty]) (tmps : Array Value) (w : World) (g : Nat) (t : TypeId) (cs : Array Value) (d : TypeDesc)
    (hp : tmps.getD p undef = .pointer (some ⟨g, 0, none⟩)) (hg : Blk w g t cs) (hu : P.underlying ty = some d) (hd : (match d with | .struct _ | .array _ _ => true | _ => false) = true) (hi : (P.info? ty).map (·.size) = some cs.size) :
    (results fn tmps).run P w = .ok (.agg cs) w :=
  results_cell_row h tmps w g t cs (0, 0) d hp hg hu hd hi

theorem SI.old {w : World} {A : Option Addr} {n g : Nat} {xs : List Int} (h : SI w A n xs) (hg : w.heap.size ≤ g) : 0 < n → ∀ b o, A = some ⟨b, o, none⟩ → b ≠ g := fun hn b o e => by
  obtain ⟨b', o', e', hb, _⟩ := h.2 hn
  rw [e'] at e
  injection e with e
  injection e with e1 e2
  omega
theorem SI.kept_ {w w' : World} {A : Option Addr} {n g : Nat} {xs : List Int} (h : SI w A n xs) (hg : w.grownBy w' (some g)) (hr : 0 < n → ∀ b o, A = some ⟨b, o, none⟩ → b ≠ g) : SI w' A n xs :=
  ⟨h.1, fun hn => by
    obtain ⟨b, o, e, hb, hc⟩ := h.2 hn
    have hs := hg.size
    exact ⟨b, o, e, by omega, fun k hk => hg.cell (hc k hk) (fun e' => by injection e' with e'; exact hr hn b o e e')⟩⟩
/-- A whole struct read out of a block that is known, and stored into one. -/
theorem wpList_load_rowP {P : Program} {ops : Array Oper} {rest : List Oper} {o : Oper} {a : Act} {w : World} {Q : Exit → Act → World → Prop} (hgd : o.guard = none) (ty : TypeId) (x : Operand) (ho : o.op = .load ty x)
    (g : Nat) (hx : a.eval x = .pointer (some ⟨g, 0, none⟩)) (t : TypeId) (cs : Array Value) (d : TypeDesc) (hg : Blk w g t cs)
    (hu : P.underlying ty = some d) (hd : (match d with | .struct _ | .array _ _ => true | _ => false) = true) (hi : (P.info? ty).map (·.size) = some cs.size)
    (h : wpList P ops Q rest (a.put o.dst (.agg cs)) w) : wpList P ops Q (o :: rest) a w :=
  wpList_load_row hgd ty x ho g hx t cs (0, 0) d hg hu hd hi h
theorem wpList_store_rowP {P : Program} {ops : Array Oper} {rest : List Oper} {o : Oper} {a : Act} {w : World} {Q : Exit → Act → World → Prop} (hgd : o.guard = none) (ty : TypeId) (x y : Operand) (ho : o.op = .store ty x y)
    (g : Nat) (cs : Array Value) (hx : a.eval x = .pointer (some ⟨g, 0, none⟩)) (hy : a.eval y = .agg cs) (t : TypeId) (old : Array Value) (hg : Blk w g t old)
    (hi : (P.info? ty).map (·.size) = some cs.size) (hsz : old.size = cs.size) (h1 : cs.all (·.oneCell') = true)
    (hK : ∀ w', Blk w' g t cs → w.grownBy w' (some g) → wpList P ops Q rest (a.put o.dst undef) w') : wpList P ops Q (o :: rest) a w :=
  wpList_store_blk hgd ty x y ho g cs hx hy t old hg hi hsz h1 hK
set_option maxHeartbeats 1000000 in
theorem toPuzzle_any (s : Int) (A1 A2 A3 : Option Addr) (n1 c1 n2 c2 n3 c3 : Nat) (x1 x2 x3 : List Int) (w : World) (h1 : SI w A1 n1 x1) (h2 : SI w A2 n2 x2) (h3 : SI w A3 n3 x3) (hn1 : n1 ≤ 1099511627776) (hn2 : n2 ≤ 1099511627776) (hn3 : n3 ≤ 1099511627776) :
    Calls Tryd.prog 32 #[.agg #[.int .i64 s, .slice A1 n1 c1, .slice A2 n2 c2, .slice A3 n3 c3]] w fun e w' => FreshP w w' e s x1 x2 x3 := by
  obtain ⟨w1, hw1⟩ : ∃ w1, w1 = ((w.alloc (.cells #[.int .i64 s, .slice A1 n1 c1, .slice A2 n2 c2, .slice A3 n3 c3] 51)).alloc (.cells #[.int .i64 0, .slice none 0 0, .slice none 0 0, .slice none 0 0] 54)).alloc (.cells #[.int .i64 0, .slice none 0 0, .slice none 0 0, .slice none 0 0] 54) := ⟨_, rfl⟩
  obtain ⟨g1, hg1⟩ : ∃ g1, g1 = w.heap.size := ⟨_, rfl⟩
  have k1 : Blk w1 g1 51 #[.int .i64 s, .slice A1 n1 c1, .slice A2 n2 c2, .slice A3 n3 c3] := by rw [hw1, hg1]; exact ((Blk.new w _ _).alloc _).alloc _
  have k2 : Blk w1 (g1 + 1) 54 #[.int .i64 0, .slice none 0 0, .slice none 0 0, .slice none 0 0] := by
    rw [hw1, hg1]
    have := (Blk.new (w.alloc (.cells #[.int .i64 s, .slice A1 n1 c1, .slice A2 n2 c2, .slice A3 n3 c3] 51)) 54 #[.int .i64 0, .slice none 0 0, .slice none 0 0, .slice none 0 0]).alloc (.cells #[.int .i64 0, .slice none 0 0, .slice none 0 0, .slice none 0 0] 54)
    simpa using this
  have k3 : Blk w1 (g1 + 1 + 1) 54 #[.int .i64 0, .slice none 0 0, .slice none 0 0, .slice none 0 0] := by
    rw [hw1, hg1]
    have := (Blk.new ((w.alloc (.cells #[.int .i64 s, .slice A1 n1 c1, .slice A2 n2 c2, .slice A3 n3 c3] 51)).alloc (.cells #[.int .i64 0, .slice none 0 0, .slice none 0 0, .slice none 0 0] 54)) 54 #[.int .i64 0, .slice none 0 0, .slice none 0 0, .slice none 0 0])
    simpa using this
  have hb1 : Below w.heap.size w w1 := by rw [hw1]; go_grown
  have HS := Lib.hid (And.intro (h1.below hb1 (Nat.le_refl _)) (And.intro (h2.below hb1 (Nat.le_refl _)) (h3.below hb1 (Nat.le_refl _))))
  have HSB := Lib.hid (And.intro (SI.old h1 (show w.heap.size ≤ g1 + 1 + 1 by omega)) (And.intro (SI.old h2 (show w.heap.size ≤ g1 + 1 + 1 by omega)) (SI.old h3 (show w.heap.size ≤ g1 + 1 + 1 by omega))))
  have HW1 := Lib.hid hw1
  have HG1 := Lib.hid hg1
  have HK := Lib.hid (And.intro k1 (And.intro k2 k3))
  have HB := Lib.hid hb1
  have hc1 : w1.cell? ⟨g1, 0, none⟩ = some (.int .i64 s) := k1.cell 0
  have hc2 : w1.cell? ⟨g1 + 1 + 1, 0, none⟩ = some (.int .i64 0) := k3.cell 0
  have hf2 := k3.frozen 0
  clear k1 k2 k3 hb1 h1 h2 h3 hw1 hg1
  go_enter Tryd.func32, Tryd.ntmps32
  go_upto_region 2 with fail
  rw [← HW1.out, ← HG1.out]
  go_upto_region 3 with fail
  clear hc1 hc2 hf2
  obtain ⟨v1, hv1⟩ : ∃ v1, v1 = w1.setCell ⟨g1 + 1 + 1, 0, none⟩ (.int .i64 s) := ⟨_, rfl⟩
  have HKa : Hid (Blk v1 g1 51 #[.int .i64 s, .slice A1 n1 c1, .slice A2 n2 c2, .slice A3 n3 c3] ∧ Blk v1 (g1 + 1) 54 #[.int .i64 0, .slice none 0 0, .slice none 0 0, .slice none 0 0] ∧ Blk v1 (g1 + 1 + 1) 54 #[.int .i64 s, .slice none 0 0, .slice none 0 0, .slice none 0 0]) := Lib.hid (by
    rw [hv1]
    exact ⟨HK.out.1.far (by show g1 ≠ g1 + 1 + 1; omega) _, HK.out.2.1.far (by show g1 + 1 ≠ g1 + 1 + 1; omega) _, HK.out.2.2.set_ 0 _⟩)
  have hbs : Below w.heap.size w1 v1 := by rw [hv1]; exact (Below.refl _ _).setCell (by have := HG1.out; show w.heap.size ≤ g1 + 1 + 1; omega) _
  have HBa : Hid (Below w.heap.size w v1) := Lib.hid (HB.out.trans hbs)
  have HSa : Hid (SI v1 A1 n1 x1 ∧ SI v1 A2 n2 x2 ∧ SI v1 A3 n3 x3) := Lib.hid (by
    rw [hv1]
    have hg : w1.grownBy (w1.setCell ⟨g1 + 1 + 1, 0, none⟩ (.int .i64 s)) (some (g1 + 1 + 1)) := grown_setP _ _ _
    exact ⟨SI.kept_ HS.out.1 hg HSB.out.1, SI.kept_ HS.out.2.1 hg HSB.out.2.1, SI.kept_ HS.out.2.2 hg HSB.out.2.2⟩)
  have HLa : Hid (g1 + 1 + 1 < v1.heap.size) := Lib.hid HKa.out.2.2.lt
  rw [← hv1]
  clear hv1 hbs
  have hcl1 : v1.cell? ⟨g1, 1, none⟩ = some (.slice A1 n1 c1) := HKa.out.1.cell 1
  go_upto_region 4 with (first
    | (go_at_call 12
       refine (toIntS_fr _ _ _ x1 _ HSa.out.1 hn1).mono ?_
       rintro e u1 ⟨B1, m1, d1, rfl, ho4, hb4⟩
       have HK1' : Hid (Blk u1 g1 51 #[.int .i64 s, .slice A1 n1 c1, .slice A2 n2 c2, .slice A3 n3 c3] ∧ Blk u1 (g1 + 1) 54 #[.int .i64 0, .slice none 0 0, .slice none 0 0, .slice none 0 0] ∧ Blk u1 (g1 + 1 + 1) 54 #[.int .i64 s, .slice none 0 0, .slice none 0 0, .slice none 0 0]) := Lib.hid ⟨HKa.out.1.below hb4 HKa.out.1.lt, HKa.out.2.1.below hb4 HKa.out.2.1.lt, HKa.out.2.2.below hb4 HKa.out.2.2.lt⟩
       have hsz1 := hb4.size
       have HQ1 : Hid (Below v1.heap.size v1 u1) := Lib.hid hb4
       have HO1 : Hid (Own u1 v1.heap.size u1.heap.size B1 m1 d1 x1) := Lib.hid ho4
       have hd1 : u1.cell? ⟨g1 + 1 + 1, 1, none⟩ = some (.slice none 0 0) := HK1'.out.2.2.cell 1
       have he1 := HK1'.out.2.2.frozen 1
       clear ho4 hb4))
  clear hcl1 hd1 he1
  obtain ⟨v2, hv2⟩ : ∃ v2, v2 = u1.setCell ⟨g1 + 1 + 1, 1, none⟩ (.slice B1 m1 d1) := ⟨_, rfl⟩
  have hg2 : u1.grownBy v2 (some (g1 + 1 + 1)) := by rw [hv2]; exact grown_setP _ _ _
  have HKb : Hid (Blk v2 g1 51 #[.int .i64 s, .slice A1 n1 c1, .slice A2 n2 c2, .slice A3 n3 c3] ∧ Blk v2 (g1 + 1) 54 #[.int .i64 0, .slice none 0 0, .slice none 0 0, .slice none 0 0] ∧ Blk v2 (g1 + 1 + 1) 54 #[.int .i64 s, .slice B1 m1 d1, .slice none 0 0, .slice none 0 0]) := Lib.hid (by
    rw [hv2]
    exact ⟨HK1'.out.1.far (by show g1 ≠ g1 + 1 + 1; omega) _, HK1'.out.2.1.far (by show g1 + 1 ≠ g1 + 1 + 1; omega) _, HK1'.out.2.2.set_ 1 _⟩)
  have HBb : Hid (Below w.heap.size w v2) := Lib.hid ((HBa.out.trans (HQ1.out.mono HBa.out.size)).grown hg2 (by have := HBa.out.size; omega) (by rintro k ⟨⟩; have := HG1.out; omega))
  have HSb : Hid (SI v2 A1 n1 x1 ∧ SI v2 A2 n2 x2 ∧ SI v2 A3 n3 x3) := Lib.hid ⟨SI.kept_ (HSa.out.1.below HQ1.out (Nat.le_refl _)) hg2 HSB.out.1, SI.kept_ (HSa.out.2.1.below HQ1.out (Nat.le_refl _)) hg2 HSB.out.2.1, SI.kept_ (HSa.out.2.2.below HQ1.out (Nat.le_refl _)) hg2 HSB.out.2.2⟩
  have HLb : Hid (g1 + 1 + 1 < v1.heap.size ∧ v1.heap.size ≤ u1.heap.size ∧ u1.heap.size ≤ v2.heap.size) := Lib.hid ⟨HKa.out.2.2.lt, hsz1, hg2.size⟩
  have HP1 : Hid (Own v2 v1.heap.size u1.heap.size B1 m1 d1 x1) := Lib.hid (HO1.out.grown hg2 (fun k hk => by injection hk with hk; have := HLb.out.1; omega))
  rw [← hv2]
  clear hv2 hg2 hsz1
  have hcl2 : v2.cell? ⟨g1, 2, none⟩ = some (.slice A2 n2 c2) := HKb.out.1.cell 2
  go_upto_region 5 with (first
    | (go_at_call 12
       refine (toIntS_fr _ _ _ x2 _ HSb.out.2.1 hn2).mono ?_
       rintro e u2 ⟨B2, m2, d2, rfl, ho4, hb4⟩
       have HK2' : Hid (Blk u2 g1 51 #[.int .i64 s, .slice A1 n1 c1, .slice A2 n2 c2, .slice A3 n3 c3] ∧ Blk u2 (g1 + 1) 54 #[.int .i64 0, .slice none 0 0, .slice none 0 0, .slice none 0 0] ∧ Blk u2 (g1 + 1 + 1) 54 #[.int .i64 s, .slice B1 m1 d1, .slice none 0 0, .slice none 0 0]) := Lib.hid ⟨HKb.out.1.below hb4 HKb.out.1.lt, HKb.out.2.1.below hb4 HKb.out.2.1.lt, HKb.out.2.2.below hb4 HKb.out.2.2.lt⟩
       have hsz2 := hb4.size
       have HQ2 : Hid (Below v2.heap.size v2 u2) := Lib.hid hb4
       have HO2 : Hid (Own u2 v2.heap.size u2.heap.size B2 m2 d2 x2) := Lib.hid ho4
       have hd2 : u2.cell? ⟨g1 + 1 + 1, 2, none⟩ = some (.slice none 0 0) := HK2'.out.2.2.cell 2
       have he2 := HK2'.out.2.2.frozen 2
       clear ho4 hb4))
  clear hcl2 hd2 he2
  obtain ⟨v3, hv3⟩ : ∃ v3, v3 = u2.setCell ⟨g1 + 1 + 1, 2, none⟩ (.slice B2 m2 d2) := ⟨_, rfl⟩
  have hg3 : u2.grownBy v3 (some (g1 + 1 + 1)) := by rw [hv3]; exact grown_setP _ _ _
  have HKc : Hid (Blk v3 g1 51 #[.int .i64 s, .slice A1 n1 c1, .slice A2 n2 c2, .slice A3 n3 c3] ∧ Blk v3 (g1 + 1) 54 #[.int .i64 0, .slice none 0 0, .slice none 0 0, .slice none 0 0] ∧ Blk v3 (g1 + 1 + 1) 54 #[.int .i64 s, .slice B1 m1 d1, .slice B2 m2 d2, .slice none 0 0]) := Lib.hid (by
    rw [hv3]
    exact ⟨HK2'.out.1.far (by show g1 ≠ g1 + 1 + 1; omega) _, HK2'.out.2.1.far (by show g1 + 1 ≠ g1 + 1 + 1; omega) _, HK2'.out.2.2.set_ 2 _⟩)
  have HBc : Hid (Below w.heap.size w v3) := Lib.hid ((HBb.out.trans (HQ2.out.mono HBb.out.size)).grown hg3 (by have := HBb.out.size; omega) (by rintro k ⟨⟩; have := HG1.out; omega))
  have HSc : Hid (SI v3 A1 n1 x1 ∧ SI v3 A2 n2 x2 ∧ SI v3 A3 n3 x3) := Lib.hid ⟨SI.kept_ (HSb.out.1.below HQ2.out (Nat.le_refl _)) hg3 HSB.out.1, SI.kept_ (HSb.out.2.1.below HQ2.out (Nat.le_refl _)) hg3 HSB.out.2.1, SI.kept_ (HSb.out.2.2.below HQ2.out (Nat.le_refl _)) hg3 HSB.out.2.2⟩
  have HLc : Hid (g1 + 1 + 1 < v2.heap.size ∧ v2.heap.size ≤ u2.heap.size ∧ u2.heap.size ≤ v3.heap.size) := Lib.hid ⟨HKb.out.2.2.lt, hsz2, hg3.size⟩
  have HP2 : Hid (Own v3 v2.heap.size u2.heap.size B2 m2 d2 x2) := Lib.hid (HO2.out.grown hg3 (fun k hk => by injection hk with hk; have := HLc.out.1; omega))
  have HP1 : Hid (Own v3 v1.heap.size u1.heap.size B1 m1 d1 x1) := Lib.hid ((HP1.out.below HQ2.out (by have := HLb.out.2.2;  omega)).grown hg3 (fun k hk => by injection hk with hk; have := HLb.out.1; omega))
  rw [← hv3]
  clear hv3 hg3 hsz2
  have hcl3 : v3.cell? ⟨g1, 3, none⟩ = some (.slice A3 n3 c3) := HKc.out.1.cell 3
  go_upto_region 6 with (first
    | (go_at_call 12
       refine (toIntS_fr _ _ _ x3 _ HSc.out.2.2 hn3).mono ?_
       rintro e u3 ⟨B3, m3, d3, rfl, ho4, hb4⟩
       have HK3' : Hid (Blk u3 g1 51 #[.int .i64 s, .slice A1 n1 c1, .slice A2 n2 c2, .slice A3 n3 c3] ∧ Blk u3 (g1 + 1) 54 #[.int .i64 0, .slice none 0 0, .slice none 0 0, .slice none 0 0] ∧ Blk u3 (g1 + 1 + 1) 54 #[.int .i64 s, .slice B1 m1 d1, .slice B2 m2 d2, .slice none 0 0]) := Lib.hid ⟨HKc.out.1.below hb4 HKc.out.1.lt, HKc.out.2.1.below hb4 HKc.out.2.1.lt, HKc.out.2.2.below hb4 HKc.out.2.2.lt⟩
       have hsz3 := hb4.size
       have HQ3 : Hid (Below v3.heap.size v3 u3) := Lib.hid hb4
       have HO3 : Hid (Own u3 v3.heap.size u3.heap.size B3 m3 d3 x3) := Lib.hid ho4
       have hd3 : u3.cell? ⟨g1 + 1 + 1, 3, none⟩ = some (.slice none 0 0) := HK3'.out.2.2.cell 3
       have he3 := HK3'.out.2.2.frozen 3
       clear ho4 hb4))
  clear hcl3 hd3 he3
  obtain ⟨v4, hv4⟩ : ∃ v4, v4 = u3.setCell ⟨g1 + 1 + 1, 3, none⟩ (.slice B3 m3 d3) := ⟨_, rfl⟩
  have hg4 : u3.grownBy v4 (some (g1 + 1 + 1)) := by rw [hv4]; exact grown_setP _ _ _
  have HKd : Hid (Blk v4 g1 51 #[.int .i64 s, .slice A1 n1 c1, .slice A2 n2 c2, .slice A3 n3 c3] ∧ Blk v4 (g1 + 1) 54 #[.int .i64 0, .slice none 0 0, .slice none 0 0, .slice none 0 0] ∧ Blk v4 (g1 + 1 + 1) 54 #[.int .i64 s, .slice B1 m1 d1, .slice B2 m2 d2, .slice B3 m3 d3]) := Lib.hid (by
    rw [hv4]
    exact ⟨HK3'.out.1.far (by show g1 ≠ g1 + 1 + 1; omega) _, HK3'.out.2.1.far (by show g1 + 1 ≠ g1 + 1 + 1; omega) _, HK3'.out.2.2.set_ 3 _⟩)
  have HBd : Hid (Below w.heap.size w v4) := Lib.hid ((HBc.out.trans (HQ3.out.mono HBc.out.size)).grown hg4 (by have := HBc.out.size; omega) (by rintro k ⟨⟩; have := HG1.out; omega))
  have HSd : Hid (SI v4 A1 n1 x1 ∧ SI v4 A2 n2 x2 ∧ SI v4 A3 n3 x3) := Lib.hid ⟨SI.kept_ (HSc.out.1.below HQ3.out (Nat.le_refl _)) hg4 HSB.out.1, SI.kept_ (HSc.out.2.1.below HQ3.out (Nat.le_refl _)) hg4 HSB.out.2.1, SI.kept_ (HSc.out.2.2.below HQ3.out (Nat.le_refl _)) hg4 HSB.out.2.2⟩
  have HLd : Hid (g1 + 1 + 1 < v3.heap.size ∧ v3.heap.size ≤ u3.heap.size ∧ u3.heap.size ≤ v4.heap.size) := Lib.hid ⟨HKc.out.2.2.lt, hsz3, hg4.size⟩
  have HP3 : Hid (Own v4 v3.heap.size u3.heap.size B3 m3 d3 x3) := Lib.hid (HO3.out.grown hg4 (fun k hk => by injection hk with hk; have := HLd.out.1; omega))
  have HP1 : Hid (Own v4 v1.heap.size u1.heap.size B1 m1 d1 x1) := Lib.hid ((HP1.out.below HQ3.out (by have := HLb.out.2.2; have := HLc.out.2.1; have := HLc.out.2.2; omega)).grown hg4 (fun k hk => by injection hk with hk; have := HLb.out.1; omega))
  have HP2 : Hid (Own v4 v2.heap.size u2.heap.size B2 m2 d2 x2) := Lib.hid ((HP2.out.below HQ3.out (by have := HLc.out.2.2;  omega)).grown hg4 (fun k hk => by injection hk with hk; have := HLc.out.1; omega))
  rw [← hv4]
  clear hv4 hg4 hsz3
  go_wp2_with (first
    | (refine wpList_load_rowP rfl 54 (.tmp 3) rfl (g1 + 1 + 1) rfl 54 #[.int .i64 s, .slice B1 m1 d1, .slice B2 m2 d2, .slice B3 m3 d3] _ HKd.out.2.2 Tryd.underlying54 rfl Tryd.infoPz ?_)
    | (refine wpList_store_rowP rfl 54 (.tmp 2) (.tmp 19) rfl (g1 + 1) #[.int .i64 s, .slice B1 m1 d1, .slice B2 m2 d2, .slice B3 m3 d3] rfl rfl 54 #[.int .i64 0, .slice none 0 0, .slice none 0 0, .slice none 0 0] HKd.out.2.1 Tryd.infoPz rfl (by simp [Value.oneCell']) ?_; intro w5 hb5 hg5)
    | fail)
  refine bodyPost_ret (results_rowP Tryd.results32 _ _ _ 54 #[.int .i64 s, .slice B1 m1 d1, .slice B2 m2 d2, .slice B3 m3 d3] _ rfl hb5 Tryd.underlying54 rfl Tryd.infoPz) rfl ?_
  have l1 := HLb.out
  have l2 := HLc.out
  have l3 := HLd.out
  have l5 := hg5.size
  have hG := HG1.out
  refine ⟨B1, B2, B3, m1, d1, m2, d2, m3, d3, rfl, ⟨u1.heap.size, u2.heap.size, by omega, by omega, by omega, ?_, ?_, ?_⟩, ?_⟩
  · exact (HP1.out.grown hg5 (fun k hk => by injection hk with hk; omega)).wide (by omega) (Nat.le_refl _)
  · exact (HP2.out.grown hg5 (fun k hk => by injection hk with hk; omega)).wide (by omega) (Nat.le_refl _)
  · exact (HP3.out.grown hg5 (fun k hk => by injection hk with hk; omega)).wide (by omega) (by omega)
  · exact HBd.out.grown hg5 HBd.out.size (by rintro k ⟨⟩; omega)
theorem Within.of_below_ {lo hi : Nat} {w w' : World} (h : Below w.heap.size w w') : Within lo hi w w' := ⟨h.os, h.tape, h.output, h.size, fun k hk _ => h.block k hk⟩
/-- The cells of a puzzle in a block, told one by one. -/
theorem cells4 {w : World} {g : Nat} {t : TypeId} {a b c d : Value} (h : Blk w g t #[a, b, c, d]) : w.cell? ⟨g, 0, none⟩ = some a ∧ w.cell? ⟨g, 1, none⟩ = some b ∧ w.cell? ⟨g, 2, none⟩ = some c ∧ w.cell? ⟨g, 3, none⟩ = some d := ⟨h.cell 0, h.cell 1, h.cell 2, h.cell 3⟩
set_option maxHeartbeats 1000000 in
theorem szPuzzle_any (s : Int) (A1 A2 A3 : Option Addr) (n1 c1 n2 c2 n3 c3 : Nat) (w : World) (hn1 : n1 ≤ 9223372036854775807) (hn2 : n2 ≤ 9223372036854775807) (hn3 : n3 ≤ 9223372036854775807) :
    Calls Tryd.prog 30 #[.agg #[.int .i64 s, .slice A1 n1 c1, .slice A2 n2 c2, .slice A3 n3 c3], .int .i64 1048576] w fun e w' => (∃ r : Int, e = .returned (.int .i64 r) ∧ (r < 0 ∨ 0 ≤ r ∧ n1 + n2 + n3 ≤ 1048576)) ∧ Below w.heap.size w w' := by
  obtain ⟨w1, hw1⟩ : ∃ w1, w1 = w.alloc (.cells #[.int .i64 s, .slice A1 n1 c1, .slice A2 n2 c2, .slice A3 n3 c3] 51) := ⟨_, rfl⟩
  obtain ⟨g, hg⟩ : ∃ g, g = w.heap.size := ⟨_, rfl⟩
  have hk : Blk w1 g 51 #[.int .i64 s, .slice A1 n1 c1, .slice A2 n2 c2, .slice A3 n3 c3] := by rw [hw1, hg]; exact Blk.new _ _ _
  have HB : Hid (Below w.heap.size w w1) := Lib.hid (by rw [hw1]; exact Below.alloc_self _ _)
  obtain ⟨q0, q1, q2, q3⟩ := cells4 hk
  have HW := Lib.hid hw1
  have HG := Lib.hid hg
  clear hk hw1 hg q0
  have HS1 := Lib.hid (fun w => szIntS_any A1 n1 c1 1048576 w hn1 (by decide) (Int.le_refl _))
  by_cases h1 : (1048576 : Int) < (n1 : Int)
  · rw [if_pos h1] at HS1
    clear h1
    go_enter Tryd.func30, Tryd.ntmps30
    go_upto_region 1 with fail
    rw [← HW.out, ← HG.out]
    go_wp2_with (go_at_call 59; refine (HS1.out _).mono ?_; rintro e w2 ⟨rfl, rfl⟩)
    go_ret
    exact ⟨⟨-1, rfl, .inl (by decide)⟩, HB.out⟩
  · rw [if_neg h1] at HS1
    obtain ⟨l1, hl1⟩ : ∃ l1 : Int, l1 = 1048576 - (n1 : Int) := ⟨_, rfl⟩
    rw [← hl1] at HS1
    have HS2 := Lib.hid (fun w => szIntS_any A2 n2 c2 l1 w hn2 (by omega) (by omega))
    have hl1' : ¬ l1 < 0 := by omega
    by_cases h2 : l1 < (n2 : Int)
    · rw [if_pos h2] at HS2
      clear h1 h2 hl1
      go_enter Tryd.func30, Tryd.ntmps30
      go_upto_region 1 with fail
      rw [← HW.out, ← HG.out]
      go_wp2_with (go_at_call 59; first | ((with_reducible refine (HS1.out _).mono ?_); rintro e w2 ⟨rfl, rfl⟩) | ((with_reducible refine (HS2.out _).mono ?_); rintro e w2 ⟨rfl, rfl⟩))
      go_ret
      exact ⟨⟨-1, rfl, .inl (by decide)⟩, HB.out⟩
    · rw [if_neg h2] at HS2
      obtain ⟨l2, hl2⟩ : ∃ l2 : Int, l2 = l1 - (n2 : Int) := ⟨_, rfl⟩
      rw [← hl2] at HS2
      have HS3 := Lib.hid (fun w => szIntS_any A3 n3 c3 l2 w hn3 (by omega) (by omega))
      have hl2' : ¬ l2 < 0 := by omega
      by_cases h3 : l2 < (n3 : Int)
      · rw [if_pos h3] at HS3
        clear h1 h2 h3 hl1 hl2
        go_enter Tryd.func30, Tryd.ntmps30
        go_upto_region 1 with fail
        rw [← HW.out, ← HG.out]
        go_wp2_with (go_at_call 59; first | ((with_reducible refine (HS1.out _).mono ?_); rintro e w2 ⟨rfl, rfl⟩) | ((with_reducible refine (HS2.out _).mono ?_); rintro e w2 ⟨rfl, rfl⟩) | ((with_reducible refine (HS3.out _).mono ?_); rintro e w2 ⟨rfl, rfl⟩))
        go_ret
        exact ⟨⟨-1, rfl, .inl (by decide)⟩, HB.out⟩
      · rw [if_neg h3] at HS3
        obtain ⟨l3, hl3⟩ : ∃ l3 : Int, l3 = l2 - (n3 : Int) := ⟨_, rfl⟩
        rw [← hl3] at HS3
        have hl3' : ¬ l3 < 0 := by omega
        have HF : Hid (0 ≤ l3 ∧ n1 + n2 + n3 ≤ 1048576) := Lib.hid (by omega)
        clear h1 h2 h3 hl1 hl2 hl3
        go_enter Tryd.func30, Tryd.ntmps30
        go_upto_region 1 with fail
        rw [← HW.out, ← HG.out]
        go_wp2_with (go_at_call 59; first | ((with_reducible refine (HS1.out _).mono ?_); rintro e w2 ⟨rfl, rfl⟩) | ((with_reducible refine (HS2.out _).mono ?_); rintro e w2 ⟨rfl, rfl⟩) | ((with_reducible refine (HS3.out _).mono ?_); rintro e w2 ⟨rfl, rfl⟩))
        go_ret
        exact ⟨⟨l3, rfl, .inr HF.out⟩, HB.out⟩
set_option maxRecDepth 100000 in
set_option maxHeartbeats 1000000 in
theorem eqPuzzle_yes (s : Int) (A1 A2 A3 : Option Addr) (n1 c1 n2 c2 n3 c3 : Nat) (B1 B2 B3 : Option Addr) (m1 d1 m2 d2 m3 d3 : Nat) (x1 x2 x3 : List Int) (w : World) (h1 : SI w A1 n1 x1 ∧ SI w A2 n2 x2 ∧ SI w A3 n3 x3) (k1 : SI w B1 m1 x1 ∧ SI w B2 m2 x2 ∧ SI w B3 m3 x3)
    (hn : x1.length ≤ 1099511627776 ∧ x2.length ≤ 1099511627776 ∧ x3.length ≤ 1099511627776) :
    Calls Tryd.prog 34 #[.agg #[.int .i64 s, .slice A1 n1 c1, .slice A2 n2 c2, .slice A3 n3 c3], .agg #[.int .i64 s, .slice B1 m1 d1, .slice B2 m2 d2, .slice B3 m3 d3]] w fun e w' => e = .returned (.bool true) ∧ Below w.heap.size w w' := by
  obtain ⟨w1, hw1⟩ : ∃ w1, w1 = (w.alloc (.cells #[.int .i64 s, .slice A1 n1 c1, .slice A2 n2 c2, .slice A3 n3 c3] 54)).alloc (.cells #[.int .i64 s, .slice B1 m1 d1, .slice B2 m2 d2, .slice B3 m3 d3] 54) := ⟨_, rfl⟩
  obtain ⟨g, hg⟩ : ∃ g, g = w.heap.size := ⟨_, rfl⟩
  have hk : Blk w1 g 54 #[.int .i64 s, .slice A1 n1 c1, .slice A2 n2 c2, .slice A3 n3 c3] := by rw [hw1, hg]; exact (Blk.new _ _ _).alloc _
  have hk2 : Blk w1 (g + 1) 54 #[.int .i64 s, .slice B1 m1 d1, .slice B2 m2 d2, .slice B3 m3 d3] := by
    rw [hw1, hg]
    have := Blk.new (w.alloc (.cells #[.int .i64 s, .slice A1 n1 c1, .slice A2 n2 c2, .slice A3 n3 c3] 54)) 54 #[.int .i64 s, .slice B1 m1 d1, .slice B2 m2 d2, .slice B3 m3 d3]
    simpa using this
  have hb : Below w.heap.size w w1 := by rw [hw1]; go_grown
  have HB := Lib.hid hb
  have HW := Lib.hid hw1
  have HG := Lib.hid hg
  have HK := Lib.hid (And.intro hk hk2)
  have HS := Lib.hid (And.intro (h1.1.below hb (Nat.le_refl _)) (And.intro (h1.2.1.below hb (Nat.le_refl _)) (h1.2.2.below hb (Nat.le_refl _))))
  have HT := Lib.hid (And.intro (k1.1.below hb (Nat.le_refl _)) (And.intro (k1.2.1.below hb (Nat.le_refl _)) (k1.2.2.below hb (Nat.le_refl _))))
  have HN := Lib.hid (show n1 ≤ 1099511627776 ∧ n2 ≤ 1099511627776 ∧ n3 ≤ 1099511627776 ∧ m1 ≤ 1099511627776 ∧ m2 ≤ 1099511627776 ∧ m3 ≤ 1099511627776 by
    have := h1.1.1; have := h1.2.1.1; have := h1.2.2.1; have := k1.1.1; have := k1.2.1.1; have := k1.2.2.1
    omega)
  obtain ⟨q0, q1, q2, q3⟩ := cells4 hk
  obtain ⟨r0, r1, r2, r3⟩ := cells4 hk2
  clear hk hk2 hb hw1 hg h1 k1 hn
  go_enter Tryd.func34, Tryd.ntmps34
  go_upto_region 1 with fail
  rw [← HW.out, ← HG.out]
  go_upto_region 5 with (first
    | (go_at_call 14
       refine (eqIntS_any _ _ _ _ _ _ x1 x1 _ HS.out.1 HT.out.1 HN.out.1 HN.out.2.2.2.1).mono ?_
       rintro e w2 ⟨rfl, hd⟩
       rw [eqL_self]
       have HD2 := Lib.hid hd
       obtain ⟨q0, q1, q2, q3⟩ := cells4 (HK.out.1.drawn hd)
       obtain ⟨r0, r1, r2, r3⟩ := cells4 (HK.out.2.drawn hd)
       clear hd))
  clear q0 q1 q3 r0 r1 r3
  go_upto_region 7 with (first
    | (go_at_call 14
       refine (eqIntS_any _ _ _ _ _ _ x2 x2 _ (HD2.out.si HS.out.2.1) (HD2.out.si HT.out.2.1) HN.out.2.1 HN.out.2.2.2.2.1).mono ?_
       rintro e w3 ⟨rfl, hd⟩
       rw [eqL_self]
       have HD3 := Lib.hid (HD2.out.trans hd)
       obtain ⟨q0, q1, q2, q3⟩ := cells4 (HK.out.1.drawn HD3.out)
       obtain ⟨r0, r1, r2, r3⟩ := cells4 (HK.out.2.drawn HD3.out)
       clear hd))
  clear q0 q1 q2 r0 r1 r2
  go_wp2_with (first
    | (go_at_call 14
       refine (eqIntS_any _ _ _ _ _ _ x3 x3 _ (HD3.out.si HS.out.2.2) (HD3.out.si HT.out.2.2) HN.out.2.2.1 HN.out.2.2.2.2.2).mono ?_
       rintro e w4 ⟨rfl, hd⟩
       rw [eqL_self]
       have HD4 := Lib.hid (HD3.out.trans hd)
       clear hd))
  go_ret
  exact ⟨rfl, HB.out.trans (HD4.out.below _)⟩
/-- The three lists marked from q on. -/
abbrev mk1 (x1 : List Int) (q : Int) : List Int := marks x1.length q
abbrev mk2 (x1 x2 : List Int) (q : Int) : List Int := marks x2.length (q + x1.length)
abbrev mk3 (x1 x2 x3 : List Int) (q : Int) : List Int := marks x3.length (q + x1.length + x2.length)
end Go.Proofs.YtdiiaallklkomaaDoor

/-
  Small triangles of the program: slices of them, the right ones, those of a puzzle. Conditions: lengths below 2^40.
-/



namespace Go.Proofs.YtdiiaallklkomaaDoor
open Go.RowKit

def tr (ts : List Tr) (k : Nat) : Tr := ts.getD k (0, 0, 0)
theorem tr_get {ts : List Tr} {k : Nat} (h : k < ts.length) : tr ts k = ts[k] := by simp [tr, List.getD, h]
def cellsR : List Tr → List Value
  | [] => []
  | t :: ts => .int .i64 t.1 :: .int .i64 t.2.1 :: .int .i64 t.2.2 :: cellsR ts
theorem cellsR_len : ∀ ts : List Tr, (cellsR ts).length = ts.length * 3
  | [] => rfl
  | t :: ts => by simp only [cellsR, List.length_cons, cellsR_len ts]; omega
theorem cellsR_app : ∀ (ts us : List Tr), cellsR (ts ++ us) = cellsR ts ++ cellsR us
  | [], us => rfl
  | t :: ts, us => by simp only [List.cons_append, cellsR, cellsR_app ts us]
theorem cellsR_get : ∀ (ts : List Tr) (k : Nat), k < ts.length → (cellsR ts)[k * 3]? = some (.int .i64 (tr ts k).1) ∧ (cellsR ts)[k * 3 + 1]? = some (.int .i64 (tr ts k).2.1) ∧ (cellsR ts)[k * 3 + 2]? = some (.int .i64 (tr ts k).2.2)
  | [], k, h => absurd h (by simp)
  | t :: ts, 0, _ => by simp [cellsR, tr]
  | t :: ts, k + 1, h => by
    have ih := cellsR_get ts k (by simpa using h)
    have e1 : (k + 1) * 3 = k * 3 + 3 := by omega
    have e2 : tr (t :: ts) (k + 1) = tr ts k := by simp [tr, List.getD]
    rw [e1, e2]
    simpa [cellsR, List.getElem?_cons_succ] using ih
/-- The slice (A, n) reads as the small triangles ts. -/
def RS (w : World) (A : Option Addr) (n : Nat) (ts : List Tr) : Prop :=
  ts.length = n ∧ (0 < n → ∃ b o, A = some ⟨b, o, none⟩ ∧ b < w.heap.size ∧ ∀ k, k < n → w.cell? ⟨b, o + k * 3, none⟩ = some (.int .i64 (tr ts k).1) ∧ w.cell? ⟨b, o + k * 3 + 1, none⟩ = some (.int .i64 (tr ts k).2.1) ∧ w.cell? ⟨b, o + k * 3 + 2, none⟩ = some (.int .i64 (tr ts k).2.2))
theorem RS.below {w w' : World} {A : Option Addr} {n B : Nat} {ts : List Tr} (h : RS w A n ts) (hb : Below B w w') (hB : w.heap.size ≤ B) : RS w' A n ts :=
  ⟨h.1, fun hn => by
    obtain ⟨b, o, e, hl, hc⟩ := h.2 hn
    have hs := hb.size
    exact ⟨b, o, e, by omega, fun k hk => ⟨(hb.cell (p := ⟨b, o + k * 3, none⟩) (by show b < B; omega)).trans (hc k hk).1, (hb.cell (p := ⟨b, o + k * 3 + 1, none⟩) (by show b < B; omega)).trans (hc k hk).2.1, (hb.cell (p := ⟨b, o + k * 3 + 2, none⟩) (by show b < B; omega)).trans (hc k hk).2.2⟩⟩⟩
/-- The slice (A, n, c) holds the small triangles ts in a block of the call's own (or is nil). -/
def OwnR (w : World) (lo hi : Nat) (A : Option Addr) (n c : Nat) (ts : List Tr) : Prop :=
  ts.length = n ∧ w.ownsRow lo 123 3 (.slice A n c) n (cellsR ts) ∧ ∀ k, (Value.slice A n c).ownBlock = some k → k < hi
theorem OwnR.nil (w : World) (lo hi : Nat) : OwnR w lo hi none 0 0 [] := ⟨rfl, World.ownsRow_nil _ _ _ _, fun k hk => by simp [Value.ownBlock] at hk⟩
theorem OwnR.si {w : World} {lo hi n c : Nat} {A : Option Addr} {ts : List Tr} (h : OwnR w lo hi A n c ts) : RS w A n ts := by
  refine ⟨h.1, fun hn => ?_⟩
  obtain ⟨g, cap, e, _, _⟩ := h.2.1.form hn
  have hA : A = some ⟨g, 0, none⟩ := by injection e
  subst hA
  refine ⟨g, 0, rfl, (h.2.1.lt g rfl).2, fun k hk => ?_⟩
  obtain ⟨e0, e1, e2⟩ := cellsR_get ts k (by rw [h.1]; exact hk)
  rw [Nat.zero_add]
  exact ⟨by rw [h.2.1.cellAt _ (by omega), e0], by rw [h.2.1.cellAt _ (by omega), e1], by rw [h.2.1.cellAt _ (by omega), e2]⟩
theorem OwnR.below {w w' : World} {lo hi n c B : Nat} {A : Option Addr} {ts : List Tr} (h : OwnR w lo hi A n c ts) (hb : Below B w w') (hB : hi ≤ B) : OwnR w' lo hi A n c ts := by
  refine ⟨h.1, ⟨h.2.1.1, ?_⟩, h.2.2⟩
  rcases h.2.1.2 with hn | ⟨g, cap, cur, e, hl, hg, rest⟩
  · exact .inl hn
  · have hlt := h.2.2 g (by rw [e]; rfl)
    exact .inr ⟨g, cap, cur, e, hl, (hb.block g (by omega)).trans hg, rest⟩
theorem OwnR.wide {w : World} {lo hi lo' hi' n c : Nat} {A : Option Addr} {ts : List Tr} (h : OwnR w lo hi A n c ts) (h1 : lo' ≤ lo) (h2 : hi ≤ hi') : OwnR w lo' hi' A n c ts := by
  refine ⟨h.1, ⟨h.2.1.1, ?_⟩, fun k hk => Nat.lt_of_lt_of_le (h.2.2 k hk) h2⟩
  rcases h.2.1.2 with hn | ⟨g, cap, cur, e, hl, rest⟩
  · exact .inl hn
  · exact .inr ⟨g, cap, cur, e, Nat.le_trans h1 hl, rest⟩
theorem Tryd.infoTriZ : (Tryd.prog.info? 123).map (fun i => (i.zero, i.size, i.bytes)) = some (some (.agg #[.int .i64 0, .int .i64 0, .int .i64 0]), 3, 24) := by kernel_rfl
theorem Tryd.infoTri : (Tryd.prog.info? 123).map (·.size) = some 3 := by kernel_rfl
/-- 'all = append(all, t)' on a slice of the call's own. -/
theorem wpList_appendR {ops : Array Oper} {rest : List Oper} {o : Oper} {a : Act} {w : World} {Q : Exit → Act → World → Prop} (hgd : o.guard = none) (s x : Operand)
    (ho : o.op = .call { callee := .builtin .append, args := #[s, x], argTypes := #[104, 104] })
    (lo : Nat) (A : Option Addr) (n c : Nat) (ts : List Tr) (t : Tr) (hs : a.eval s = .slice A n c) (hx : a.eval x = .slice (some ⟨w.heap.size, 0, none⟩) 1 1)
    (hown : OwnR w lo w.heap.size A n c ts) (hlo : lo ≤ w.heap.size) (hn : n ≤ 1099511627776)
    (hK : ∀ A' c' w', OwnR w' lo w'.heap.size A' (n + 1) c' (ts ++ [t]) → Below lo w w' → w.grownBy w' (Value.slice A n c).ownBlock → wpList Tryd.prog ops Q rest (a.put o.dst (.slice A' (n + 1) c')) w') :
    wpList Tryd.prog ops Q (o :: rest) a (w.alloc (.cells #[.int .i64 t.1, .int .i64 t.2.1, .int .i64 t.2.2] 123)) := by
  obtain ⟨i0, hi, hz0, hz1, hz2⟩ := info_parts Tryd.infoTriZ
  refine Go.wpList_append_own_at _ hgd s x 104 ho lo 123 i0 (.agg #[.int .i64 0, .int .i64 0, .int .i64 0]) 3 24 Tryd.underlying104 hi hz0 hz1 hz2 rfl (by decide) _ _ _ hs (hown.2.1.alloc _) ⟨w.heap.size, 0, none⟩ 1 1 [.int .i64 t.1, .int .i64 t.2.1, .int .i64 t.2.2] hx rfl ?_ ?_ (by unfold maxLen; omega) (by omega) (by simp; omega) ?_
  · intro j u hj
    rw [add_pt, Nat.zero_add, (Blk.new w 123 #[.int .i64 t.1, .int .i64 t.2.1, .int .i64 t.2.2]).cell j]
    simpa using hj
  · intro u hu
    simp at hu
    rcases hu with rfl | rfl | rfl <;> rfl
  · intro v' w1 ho1 hg1 _ _
    have e : cellsR ts ++ [.int .i64 t.1, .int .i64 t.2.1, .int .i64 t.2.2] = cellsR (ts ++ [t]) := by rw [cellsR_app]; rfl
    rw [e] at ho1
    obtain ⟨g, cap, rfl, _, _⟩ := ho1.form (by omega)
    have hg2 : w.grownBy w1 (Value.slice A n c).ownBlock := (World.grownBy_alloc w _ _).trans hg1
    exact hK _ _ w1 ⟨by simp [hown.1], ho1, fun k hk => (ho1.lt k hk).2⟩ (grow_below hg2 hlo (fun k hk => (hown.2.1.lt k hk).1)) hg2
theorem RS.lit {w : World} {ts : List Tr} {n : Nat} (hl : ts.length = n) : RS (w.alloc (.cells (cellsR ts).toArray 123)) (some ⟨w.heap.size, 0, none⟩) n ts := by
  refine ⟨hl, fun hn => ⟨w.heap.size, 0, rfl, by simp, fun k hk => ?_⟩⟩
  obtain ⟨e0, e1, e2⟩ := cellsR_get ts k (by omega)
  have hc := fun j => (Blk.new w 123 (cellsR ts).toArray).cell j
  rw [Nat.zero_add, hc, hc, hc]
  simp only [List.getElem?_toArray]
  exact ⟨e0, e1, e2⟩
set_option maxHeartbeats 800000 in
theorem weightedTriangles_any (w : World) : Calls Tryd.prog 79 #[] w fun e w' => ∃ A, e = .returned (.slice A 6 6) ∧ RS w' A 6 (rightL true) ∧ Below w.heap.size w w' := by
  have H := Lib.hid (@RS.lit w (rightL true) 6 rfl)
  go_enter Tryd.func79, Tryd.ntmps79
  go_wp2
  go_ret
  exact ⟨_, rfl, H.out, Below.alloc_self _ _⟩
set_option maxHeartbeats 1600000 in
theorem smallPlace_at {i j : Int} (r k a : Nat) (hi : i = (r : Int)) (hj : j = (k : Int)) (ha : a = tri r + k) (w : World) (hr : r ≤ 8) (hk : k ≤ 100) :
    Calls Tryd.prog 104 #[.int .i64 i, .int .i64 j] w fun e w' => e = .returned (.int .i64 a) ∧ w = w' := by
  subst hi hj ha
  have h : r = 0 ∨ r = 1 ∨ r = 2 ∨ r = 3 ∨ r = 4 ∨ r = 5 ∨ r = 6 ∨ r = 7 ∨ r = 8 := by omega
  clear hr
  rcases h with rfl | rfl | rfl | rfl | rfl | rfl | rfl | rfl | rfl
  · have hw : IntKind.i64.wrap ((0 : Int) + (k : Int)) = (k : Int) := by rw [Int.zero_add]; exact IntWalk.i64_in _ (by omega)
    have hw2 : IntKind.i64.wrap (k : Int) = (k : Int) := IntWalk.i64_in _ (by omega)
    have HE : Hid (((tri 0 + k : Nat) : Int) = (k : Int)) := Lib.hid (by have : tri 0 = 0 := rfl; omega)
    go_enter Tryd.func104, Tryd.ntmps104
    go_wp2
    go_ret
    exact ⟨ret_int (by rw [HE.out]), rfl⟩
  · have hw : IntKind.i64.wrap ((1 : Int) + (k : Int)) = (1 : Int) + (k : Int) := IntWalk.i64_in _ (by omega)
    have hw2 : IntKind.i64.wrap (k : Int) = (k : Int) := IntWalk.i64_in _ (by omega)
    have HE : Hid (((tri 1 + k : Nat) : Int) = 1 + (k : Int)) := Lib.hid (by have : tri 1 = 1 := rfl; omega)
    go_enter Tryd.func104, Tryd.ntmps104
    go_wp2
    go_ret
    exact ⟨ret_int (by rw [HE.out]), rfl⟩
  · have hw : IntKind.i64.wrap ((3 : Int) + (k : Int)) = (3 : Int) + (k : Int) := IntWalk.i64_in _ (by omega)
    have hw2 : IntKind.i64.wrap (k : Int) = (k : Int) := IntWalk.i64_in _ (by omega)
    have HE : Hid (((tri 2 + k : Nat) : Int) = 3 + (k : Int)) := Lib.hid (by have : tri 2 = 3 := rfl; omega)
    go_enter Tryd.func104, Tryd.ntmps104
    go_wp2
    go_ret
    exact ⟨ret_int (by rw [HE.out]), rfl⟩
  · have hw : IntKind.i64.wrap ((6 : Int) + (k : Int)) = (6 : Int) + (k : Int) := IntWalk.i64_in _ (by omega)
    have hw2 : IntKind.i64.wrap (k : Int) = (k : Int) := IntWalk.i64_in _ (by omega)
    have HE : Hid (((tri 3 + k : Nat) : Int) = 6 + (k : Int)) := Lib.hid (by have : tri 3 = 6 := rfl; omega)
    go_enter Tryd.func104, Tryd.ntmps104
    go_wp2
    go_ret
    exact ⟨ret_int (by rw [HE.out]), rfl⟩
  · have hw : IntKind.i64.wrap ((10 : Int) + (k : Int)) = (10 : Int) + (k : Int) := IntWalk.i64_in _ (by omega)
    have hw2 : IntKind.i64.wrap (k : Int) = (k : Int) := IntWalk.i64_in _ (by omega)
    have HE : Hid (((tri 4 + k : Nat) : Int) = 10 + (k : Int)) := Lib.hid (by have : tri 4 = 10 := rfl; omega)
    go_enter Tryd.func104, Tryd.ntmps104
    go_wp2
    go_ret
    exact ⟨ret_int (by rw [HE.out]), rfl⟩
  · have hw : IntKind.i64.wrap ((15 : Int) + (k : Int)) = (15 : Int) + (k : Int) := IntWalk.i64_in _ (by omega)
    have hw2 : IntKind.i64.wrap (k : Int) = (k : Int) := IntWalk.i64_in _ (by omega)
    have HE : Hid (((tri 5 + k : Nat) : Int) = 15 + (k : Int)) := Lib.hid (by have : tri 5 = 15 := rfl; omega)
    go_enter Tryd.func104, Tryd.ntmps104
    go_wp2
    go_ret
    exact ⟨ret_int (by rw [HE.out]), rfl⟩
  · have hw : IntKind.i64.wrap ((21 : Int) + (k : Int)) = (21 : Int) + (k : Int) := IntWalk.i64_in _ (by omega)
    have hw2 : IntKind.i64.wrap (k : Int) = (k : Int) := IntWalk.i64_in _ (by omega)
    have HE : Hid (((tri 6 + k : Nat) : Int) = 21 + (k : Int)) := Lib.hid (by have : tri 6 = 21 := rfl; omega)
    go_enter Tryd.func104, Tryd.ntmps104
    go_wp2
    go_ret
    exact ⟨ret_int (by rw [HE.out]), rfl⟩
  · have hw : IntKind.i64.wrap ((28 : Int) + (k : Int)) = (28 : Int) + (k : Int) := IntWalk.i64_in _ (by omega)
    have hw2 : IntKind.i64.wrap (k : Int) = (k : Int) := IntWalk.i64_in _ (by omega)
    have HE : Hid (((tri 7 + k : Nat) : Int) = 28 + (k : Int)) := Lib.hid (by have : tri 7 = 28 := rfl; omega)
    go_enter Tryd.func104, Tryd.ntmps104
    go_wp2
    go_ret
    exact ⟨ret_int (by rw [HE.out]), rfl⟩
  · have hw : IntKind.i64.wrap ((36 : Int) + (k : Int)) = (36 : Int) + (k : Int) := IntWalk.i64_in _ (by omega)
    have hw2 : IntKind.i64.wrap (k : Int) = (k : Int) := IntWalk.i64_in _ (by omega)
    have HE : Hid (((tri 8 + k : Nat) : Int) = 36 + (k : Int)) := Lib.hid (by have : tri 8 = 36 := rfl; omega)
    go_enter Tryd.func104, Tryd.ntmps104
    go_wp2
    go_ret
    exact ⟨ret_int (by rw [HE.out]), rfl⟩
theorem smallPlace_d {i j : Int} (r k a : Nat) (hi : i = (r : Int)) (hj : j = (k : Int)) (ha : a = tri r + k) (w : World) (hr : r ≤ 8) (hk : k ≤ 100) :
    Calls Tryd.prog 104 #[.int .i64 i, .int .i64 j] w fun e w' => e = .returned (.int .i64 a) ∧ Drawn w w' :=
  (smallPlace_at r k a hi hj ha w hr hk).mono fun _ _ ⟨he, hw⟩ => ⟨he, hw ▸ Drawn.refl _⟩
set_option maxRecDepth 100000 in
set_option maxHeartbeats 1000000 in
theorem pzAt_any (s : Int) (A1 A2 A3 : Option Addr) (n1 c1 n2 c2 n3 c3 : Nat) (x1 x2 x3 : List Int) (i : Nat) (w : World) (h1 : SI w A1 n1 x1) (h2 : SI w A2 n2 x2) (h3 : SI w A3 n3 x3) (hi : i < n1 ∧ i < n2 ∧ i < n3) :
    Calls Tryd.prog 107 #[.agg #[.int .i64 s, .slice A1 n1 c1, .slice A2 n2 c2, .slice A3 n3 c3], .int .i64 i] w fun e w' => e = .returned (.agg #[.int .i64 (nth x1 i), .int .i64 (nth x2 i), .int .i64 (nth x3 i)]) ∧ Below w.heap.size w w' := by
  obtain ⟨w1, hw1⟩ : ∃ w1, w1 = (w.alloc (.cells #[.int .i64 s, .slice A1 n1 c1, .slice A2 n2 c2, .slice A3 n3 c3] 54)).alloc (.cells #[.int .i64 0, .int .i64 0, .int .i64 0] 123) := ⟨_, rfl⟩
  obtain ⟨g, hg⟩ : ∃ g, g = w.heap.size := ⟨_, rfl⟩
  have hk : Blk w1 g 54 #[.int .i64 s, .slice A1 n1 c1, .slice A2 n2 c2, .slice A3 n3 c3] := by rw [hw1, hg]; exact (Blk.new _ _ _).alloc _
  have hk2 : Blk w1 (g + 1) 123 #[.int .i64 0, .int .i64 0, .int .i64 0] := by
    rw [hw1, hg]
    have := Blk.new (w.alloc (.cells #[.int .i64 s, .slice A1 n1 c1, .slice A2 n2 c2, .slice A3 n3 c3] 54)) 123 #[.int .i64 0, .int .i64 0, .int .i64 0]
    simpa using this
  have hb : Below w.heap.size w w1 := by rw [hw1]; go_grown
  obtain ⟨b1, o1, rfl, hb1, hc1⟩ := (h1.below hb (Nat.le_refl _)).at_ (by omega)
  obtain ⟨b2, o2, rfl, hb2, hc2⟩ := (h2.below hb (Nat.le_refl _)).at_ (by omega)
  obtain ⟨b3, o3, rfl, hb3, hc3⟩ := (h3.below hb (Nat.le_refl _)).at_ (by omega)
  have hd1 := hc1 i hi.1
  have hd2 := hc2 i hi.2.1
  have hd3 := hc3 i hi.2.2
  obtain ⟨q0, q1, q2, q3⟩ := cells4 hk
  have r0 : w1.cell? ⟨g + 1, 0, none⟩ = some (.int .i64 0) := hk2.cell 0
  have r1 : w1.cell? ⟨g + 1, 1, none⟩ = some (.int .i64 0) := hk2.cell 1
  have r2 : w1.cell? ⟨g + 1, 2, none⟩ = some (.int .i64 0) := hk2.cell 2
  have f0 := hk2.frozen 0
  have f1 := hk2.frozen 1
  have f2 := hk2.frozen 2
  obtain ⟨l, hl⟩ : ∃ l, l = nth x1 i := ⟨_, rfl⟩
  obtain ⟨y, hy⟩ : ∃ y, y = nth x2 i := ⟨_, rfl⟩
  obtain ⟨b, hbb⟩ : ∃ b, b = nth x3 i := ⟨_, rfl⟩
  rw [← hl] at hd1
  rw [← hy] at hd2
  rw [← hbb] at hd3
  rw [← hl, ← hy, ← hbb]
  have i1 : (i : Int) < (n1 : Int) := by omega
  have i2 : (i : Int) < (n2 : Int) := by omega
  have i3 : (i : Int) < (n3 : Int) := by omega
  have HW := Lib.hid hw1
  have HG := Lib.hid hg
  have HB := Lib.hid hb
  have HK2 := Lib.hid hk2
  have HR : Hid (Blk (((w1.setCell ⟨g + 1, 0, none⟩ (.int .i64 l)).setCell ⟨g + 1, 1, none⟩ (.int .i64 y)).setCell ⟨g + 1, 2, none⟩ (.int .i64 b)) (g + 1) 123 #[.int .i64 l, .int .i64 y, .int .i64 b]) := Lib.hid (((hk2.set_ 0 _).set_ 1 _).set_ 2 _)
  have HBF : Hid (Below w.heap.size w (((w1.setCell ⟨g + 1, 0, none⟩ (.int .i64 l)).setCell ⟨g + 1, 1, none⟩ (.int .i64 y)).setCell ⟨g + 1, 2, none⟩ (.int .i64 b))) := Lib.hid (((hb.setCell (show w.heap.size ≤ g + 1 by omega) _).setCell (show w.heap.size ≤ g + 1 by omega) _).setCell (show w.heap.size ≤ g + 1 by omega) _)
  clear hk hk2 hb hb1 hb2 hb3 hc1 hc2 hc3 hw1 hg hi h1 h2 h3 hl hy hbb
  go_enter Tryd.func107, Tryd.ntmps107
  go_upto_region 1 with fail
  rw [← HW.out, ← HG.out]
  go_region
  go_wp2
  refine bodyPost_ret (results_rowP Tryd.results107 _ _ (g + 1) 123 #[.int .i64 l, .int .i64 y, .int .i64 b] _ rfl HR.out Tryd.underlying123 rfl Tryd.infoTri) rfl ?_
  first | exact ⟨rfl, HBF.out⟩ | exact ⟨rfl, HBF.out.drew⟩
end Go.Proofs.YtdiiaallklkomaaDoor

/-
  The small triangles of a puzzle, one after another. Conditions: a puzzle with lists of the right lengths.
-/



namespace Go.Proofs.YtdiiaallklkomaaDoor
open Go.RowKit

theorem smallPlace_st {i j : Int} (r k a : Nat) (hi : i = (r : Int)) (hj : j = (k : Int)) (ha : a = tri r + k) (w : World) (hr : r ≤ 8) (hk : k ≤ 100) :
    Calls Tryd.prog 104 #[.int .i64 i, .int .i64 j] w fun e w' => e = .returned (.int .i64 a) ∧ w' = w :=
  (smallPlace_at r k a hi hj ha w hr hk).mono fun _ _ ⟨he, hw⟩ => ⟨he, hw.symm⟩
set_option maxRecDepth 100000 in
set_option maxHeartbeats 2000000 in
theorem pzTip_any (s : Int) (A1 A2 A3 : Option Addr) (n1 c1 n2 c2 n3 c3 : Nat) (x1 x2 x3 : List Int) (r k : Nat) (w : World) (h1 : SI w A1 n1 x1) (h2 : SI w A2 n2 x2) (h3 : SI w A3 n3 x3) (hr : r ≤ 7) (hk0 : 0 < k) (hk : k ≤ r)
    (hi : tri r + k < n1 ∧ tri r + k < n2 ∧ tri r + k < n3) :
    Calls Tryd.prog 108 #[.agg #[.int .i64 s, .slice A1 n1 c1, .slice A2 n2 c2, .slice A3 n3 c3], .int .i64 r, .int .i64 k] w fun e w' => e = .returned (.agg #[.int .i64 (tipA x1 x2 x3 r k).1, .int .i64 (tipA x1 x2 x3 r k).2.1, .int .i64 (tipA x1 x2 x3 r k).2.2]) ∧ Below w.heap.size w w' := by
  obtain ⟨w1, hw1⟩ : ∃ w1, w1 = (w.alloc (.cells #[.int .i64 s, .slice A1 n1 c1, .slice A2 n2 c2, .slice A3 n3 c3] 54)).alloc (.cells #[.int .i64 0, .int .i64 0, .int .i64 0] 123) := ⟨_, rfl⟩
  obtain ⟨g, hg⟩ : ∃ g, g = w.heap.size := ⟨_, rfl⟩
  have hbk : Blk w1 g 54 #[.int .i64 s, .slice A1 n1 c1, .slice A2 n2 c2, .slice A3 n3 c3] := by rw [hw1, hg]; exact (Blk.new _ _ _).alloc _
  have hk2 : Blk w1 (g + 1) 123 #[.int .i64 0, .int .i64 0, .int .i64 0] := by
    rw [hw1, hg]
    have := Blk.new (w.alloc (.cells #[.int .i64 s, .slice A1 n1 c1, .slice A2 n2 c2, .slice A3 n3 c3] 54)) 123 #[.int .i64 0, .int .i64 0, .int .i64 0]
    simpa using this
  have hb : Below w.heap.size w w1 := by rw [hw1]; go_grown
  obtain ⟨a, ha⟩ : ∃ a, a = tri r + k := ⟨_, rfl⟩
  obtain ⟨r1, hr1⟩ : ∃ r1, r1 = r - 1 := ⟨_, rfl⟩
  obtain ⟨k1, hk1⟩ : ∃ k1, k1 = k - 1 := ⟨_, rfl⟩
  obtain ⟨t, ht⟩ : ∃ t, t = tri r1 + k1 := ⟨_, rfl⟩
  obtain ⟨a1, ha1⟩ : ∃ a1, a1 = a - 1 := ⟨_, rfl⟩
  have hta : t < a := by
    have h5 := tri_lt (a := r1) (b := r) (k := k1) (by omega) (by omega)
    omega
  obtain ⟨b1, o1, rfl, hb1, hc1⟩ := (h1.below hb (Nat.le_refl _)).at_ (by omega)
  obtain ⟨b2, o2, rfl, hb2, hc2⟩ := (h2.below hb (Nat.le_refl _)).at_ (by omega)
  obtain ⟨b3, o3, rfl, hb3, hc3⟩ := (h3.below hb (Nat.le_refl _)).at_ (by omega)
  have hd1 := hc1 a (by omega)
  have hd2 := hc2 a1 (by omega)
  have hd3 := hc3 t (by omega)
  obtain ⟨q0, q1, q2, q3⟩ := cells4 hbk
  have rr0 : w1.cell? ⟨g + 1, 0, none⟩ = some (.int .i64 0) := hk2.cell 0
  have rr1 : w1.cell? ⟨g + 1, 1, none⟩ = some (.int .i64 0) := hk2.cell 1
  have rr2 : w1.cell? ⟨g + 1, 2, none⟩ = some (.int .i64 0) := hk2.cell 2
  have f0 := hk2.frozen 0
  have f1 := hk2.frozen 1
  have f2 := hk2.frozen 2
  have HV : Hid (tipA x1 x2 x3 r k = (nth x1 a, nth x2 a1, nth x3 t)) := Lib.hid (by unfold tipA; rw [ha1, ht, ha, hr1, hk1])
  rw [HV.out]
  obtain ⟨l, hl⟩ : ∃ l, l = nth x1 a := ⟨_, rfl⟩
  obtain ⟨y, hy⟩ : ∃ y, y = nth x2 a1 := ⟨_, rfl⟩
  obtain ⟨b, hbb⟩ : ∃ b, b = nth x3 t := ⟨_, rfl⟩
  rw [← hl] at hd1
  rw [← hy] at hd2
  rw [← hbb] at hd3
  rw [← hl, ← hy, ← hbb]
  have i1 : (a : Int) < (n1 : Int) := by omega
  have i2 : (a1 : Int) < (n2 : Int) := by omega
  have i3 : (t : Int) < (n3 : Int) := by omega
  have wa : IntKind.i64.wrap ((a : Int) - 1) = (a1 : Int) := by rw [show (a : Int) - 1 = (a1 : Int) by omega]; exact IntWalk.i64_in _ (by have := tri_small (r := r) (by omega); omega)
  have wr1 : IntKind.i64.wrap ((r : Int) - 1) = (r1 : Int) := by rw [show (r : Int) - 1 = (r1 : Int) by omega]; exact IntWalk.i64_in _ (by omega)
  have wk1 : IntKind.i64.wrap ((k : Int) - 1) = (k1 : Int) := by rw [show (k : Int) - 1 = (k1 : Int) by omega]; exact IntWalk.i64_in _ (by omega)
  have HP1 := Lib.hid (fun w => smallPlace_at (i := (r : Int)) (j := (k : Int)) r k a rfl rfl ha w (by omega) (by omega))
  have HP2 := Lib.hid (fun w => smallPlace_st (i := (r1 : Int)) (j := (k1 : Int)) r1 k1 t rfl rfl ht w (by omega) (by omega))
  have HP3 := Lib.hid (fun w => smallPlace_st (i := (r : Int) - 1) (j := (k : Int) - 1) r1 k1 t (by omega) (by omega) ht w (by omega) (by omega))
  have HW := Lib.hid hw1
  have HG := Lib.hid hg
  have HR : Hid (Blk (((w1.setCell ⟨g + 1, 0, none⟩ (.int .i64 l)).setCell ⟨g + 1, 1, none⟩ (.int .i64 y)).setCell ⟨g + 1, 2, none⟩ (.int .i64 b)) (g + 1) 123 #[.int .i64 l, .int .i64 y, .int .i64 b]) := Lib.hid (((hk2.set_ 0 _).set_ 1 _).set_ 2 _)
  have HBF : Hid (Below w.heap.size w (((w1.setCell ⟨g + 1, 0, none⟩ (.int .i64 l)).setCell ⟨g + 1, 1, none⟩ (.int .i64 y)).setCell ⟨g + 1, 2, none⟩ (.int .i64 b))) := Lib.hid (((hb.setCell (show w.heap.size ≤ g + 1 by omega) _).setCell (show w.heap.size ≤ g + 1 by omega) _).setCell (show w.heap.size ≤ g + 1 by omega) _)
  clear hbk hk2 hb hb1 hb2 hb3 hc1 hc2 hc3 hw1 hg hi h1 h2 h3 hl hy hbb ha hr1 hk1 ht ha1 hta
  go_enter Tryd.func108, Tryd.ntmps108
  go_upto_region 1 with fail
  rw [← HW.out, ← HG.out]
  go_upto_region 2 with (go_at_call 104; refine (HP1.out _).mono ?_; rintro e w3 ⟨rfl, rfl⟩)
  refine wp_region_still_tail 20 (by kernel_rfl) (by kernel_rfl) ?_
  simp only [List.take_succ_cons, List.take_zero, List.drop_succ_cons, List.drop_zero]
  repeat (first | still_step | still_call (HP2.out _) | still_call (HP3.out _))
  refine wpStill_nil ?_
  change wpList _ _ _ _ _ w1.drew
  go_wp2
  refine bodyPost_ret (results_rowP Tryd.results108 _ _ (g + 1) 123 #[.int .i64 l, .int .i64 y, .int .i64 b] _ rfl HR.out Tryd.underlying123 rfl Tryd.infoTri) rfl ?_
  first | exact ⟨rfl, HBF.out⟩ | exact ⟨rfl, HBF.out.drew⟩
/-- The small triangles of a row up to k, and of all rows up to r. -/
def smK (x1 x2 x3 : List Int) (r : Nat) : Nat → List Tr
  | 0 => []
  | k + 1 => if 0 < k then smK x1 x2 x3 r k ++ [triA x1 x2 x3 r k] ++ [tipA x1 x2 x3 r k] else smK x1 x2 x3 r k ++ [triA x1 x2 x3 r k]
def smR (x1 x2 x3 : List Int) : Nat → List Tr
  | 0 => []
  | r + 1 => smR x1 x2 x3 r ++ smK x1 x2 x3 r (r + 1)
theorem smK_pos {x1 x2 x3 : List Int} {r K : Nat} (h : 0 < K) : smK x1 x2 x3 r (K + 1) = smK x1 x2 x3 r K ++ [triA x1 x2 x3 r K] ++ [tipA x1 x2 x3 r K] := if_pos h
theorem smK_none {x1 x2 x3 : List Int} {r K : Nat} (h : ¬ 0 < K) : smK x1 x2 x3 r (K + 1) = smK x1 x2 x3 r K ++ [triA x1 x2 x3 r K] := if_neg h
theorem smK_mem {x1 x2 x3 : List Int} {r : Nat} (t : Tr) : ∀ K, t ∈ smK x1 x2 x3 r K ↔ ∃ k, k < K ∧ (t = triA x1 x2 x3 r k ∨ 0 < k ∧ t = tipA x1 x2 x3 r k)
  | 0 => by simp [smK]
  | K + 1 => by
    have ih := smK_mem (r := r) (x1 := x1) (x2 := x2) (x3 := x3) t K
    have e : (∃ k, k < K + 1 ∧ (t = triA x1 x2 x3 r k ∨ 0 < k ∧ t = tipA x1 x2 x3 r k)) ↔ (∃ k, k < K ∧ (t = triA x1 x2 x3 r k ∨ 0 < k ∧ t = tipA x1 x2 x3 r k)) ∨ (t = triA x1 x2 x3 r K ∨ 0 < K ∧ t = tipA x1 x2 x3 r K) := by
      constructor
      · rintro ⟨k, hk, h⟩
        by_cases e : k = K
        · subst e; exact .inr h
        · exact .inl ⟨k, by omega, h⟩
      · rintro (⟨k, hk, h⟩ | h)
        · exact ⟨k, by omega, h⟩
        · exact ⟨K, by omega, h⟩
    rw [e, ← ih]
    by_cases h : 0 < K
    · rw [smK_pos h]
      simp only [List.mem_append, List.mem_singleton, h, true_and, or_assoc]
    · rw [smK_none h]
      simp only [List.mem_append, List.mem_singleton, h, false_and, or_false]
theorem smR_mem {x1 x2 x3 : List Int} (t : Tr) : ∀ R, t ∈ smR x1 x2 x3 R ↔ ∃ r, r < R ∧ ∃ k, k ≤ r ∧ (t = triA x1 x2 x3 r k ∨ 0 < k ∧ t = tipA x1 x2 x3 r k)
  | 0 => by simp [smR]
  | R + 1 => by
    have ih := smR_mem (x1 := x1) (x2 := x2) (x3 := x3) t R
    unfold smR
    rw [List.mem_append, ih, smK_mem]
    constructor
    · rintro (⟨r, hr, h⟩ | ⟨k, hk, h⟩)
      · exact ⟨r, by omega, h⟩
      · exact ⟨R, by omega, k, by omega, h⟩
    · rintro ⟨r, hr, k, hk, h⟩
      by_cases e : r = R
      · subst e; exact .inr ⟨k, by omega, h⟩
      · exact .inl ⟨r, by omega, k, hk, h⟩
theorem smK_len (x1 x2 x3 : List Int) (r : Nat) : ∀ K, (smK x1 x2 x3 r K).length ≤ 2 * K
  | 0 => Nat.le_refl _
  | K + 1 => by
    have := smK_len x1 x2 x3 r K
    unfold smK
    split
    · simp; omega
    · simp; omega
theorem smR_len (x1 x2 x3 : List Int) : ∀ R, (smR x1 x2 x3 R).length ≤ 2 * tri R
  | 0 => Nat.le_refl _
  | R + 1 => by
    have h1 := smR_len x1 x2 x3 R
    have h2 := smK_len x1 x2 x3 R (R + 1)
    unfold smR
    rw [List.length_append, tri_succ]
    omega
end Go.Proofs.YtdiiaallklkomaaDoor

/-
  The small triangles of a puzzle, gathered. Conditions: a puzzle with lists of the right lengths.
-/

namespace Go.Proofs.YtdiiaallklkomaaDoor
open Go.RowKit

theorem OwnR.named {w : World} {lo hi n c : Nat} {A : Option Addr} {ts : List Tr} (h : OwnR w lo hi A n c ts) : ∃ E, E = cellsR ts ∧ w.ownsRow lo 123 3 (.slice A n c) n E ∧ ts.length = n ∧ ∀ k, (Value.slice A n c).ownBlock = some k → lo ≤ k ∧ k < hi := ⟨_, rfl, h.2.1, h.1, fun k hk => ⟨(h.2.1.lt k hk).1, h.2.2 k hk⟩⟩
/-- What a call that makes a slice of small triangles hands back. -/
def FreshR (w w' : World) (e : Ending) (ts : List Tr) : Prop :=
  ∃ A n c, e = .returned (.slice A n c) ∧ OwnR w' w.heap.size w'.heap.size A n c ts ∧ Below w.heap.size w w'
set_option maxRecDepth 100000 in
set_option maxHeartbeats 4000000 in
theorem smallTriangles_any (m : Nat) (A1 A2 A3 : Option Addr) (n1 c1 n2 c2 n3 c3 : Nat) (x1 x2 x3 : List Int) (w : World) (h1 : SI w A1 n1 x1) (h2 : SI w A2 n2 x2) (h3 : SI w A3 n3 x3) (hm : 1 ≤ m ∧ m ≤ 7) (hl : n1 = tri m ∧ n2 = tri m ∧ n3 = tri m) :
    Calls Tryd.prog 94 #[.agg #[.int .i64 m, .slice A1 n1 c1, .slice A2 n2 c2, .slice A3 n3 c3]] w fun e w' => FreshR w w' e (smR x1 x2 x3 m) := by
  obtain ⟨i0, hii, hz0, hz1, hz2⟩ := info_parts Tryd.infoTriZ
  have HI := Lib.hid (And.intro hii (And.intro hz0 (And.intro hz1 hz2)))
  clear hii hz0 hz1 hz2
  obtain ⟨w1, hw1⟩ : ∃ w1, w1 = w.alloc (.cells #[.int .i64 m, .slice A1 n1 c1, .slice A2 n2 c2, .slice A3 n3 c3] 54) := ⟨_, rfl⟩
  obtain ⟨g, hg⟩ : ∃ g, g = w.heap.size := ⟨_, rfl⟩
  have hbk : Blk w1 g 54 #[.int .i64 m, .slice A1 n1 c1, .slice A2 n2 c2, .slice A3 n3 c3] := by rw [hw1, hg]; exact Blk.new _ _ _
  have hb : Below w.heap.size w w1 := by rw [hw1]; go_grown
  have hsz : w1.heap.size = g + 1 := by rw [hw1, hg]; simp
  have HB1 := Lib.hid hb
  have HW := Lib.hid hw1
  have HG := Lib.hid hg
  have HSZ := Lib.hid hsz
  have HK1 := Lib.hid hbk
  have HS := Lib.hid (And.intro (h1.below hb (Nat.le_refl _)) (And.intro (h2.below hb (Nat.le_refl _)) (h3.below hb (Nat.le_refl _))))
  have HM := Lib.hid hm
  have HLL := Lib.hid hl
  have hm7 : m ≤ 7 := hm.2
  obtain ⟨q0, _, _, _⟩ := cells4 hbk
  clear hw1 hg hbk hb hsz h1 h2 h3 hm hl
  go_enter Tryd.func94, Tryd.ntmps94
  go_upto_region 1 with fail
  rw [← HW.out, ← HG.out]
  go_wp2_with fail
  clear q0
  go_loopw [3, 8] (fun ov rv wr => ∃ (r n : Nat) (A : Option Addr) (c : Nat), r ≤ m ∧ rv = .int .i64 r ∧ ov = .slice A n c ∧ OwnR wr (g + 1) wr.heap.size A n c (smR x1 x2 x3 r) ∧ Below (g + 1) w1 wr)
    (fun _ rv _ => m - (intOf rv).toNat)
  case atStart => exact ⟨0, 0, none, 0, Nat.zero_le _, rfl, rfl, OwnR.nil _ _ _, Below.refl _ _⟩
  case round =>
    obtain ⟨r, n, A, c, hr, rfl, rfl, hown, hbw⟩ := hrel
    have HO := Lib.hid hown
    have HB := Lib.hid hbw
    clear hown hbw
    by_cases hlt : r < m
    case neg =>
      have hrm : r = m := by omega
      subst hrm
      go_wp2
      go_ret
      exact ⟨A, n, c, rfl, HO.out.wide (by have := HG.out; omega) (Nat.le_refl _), HB1.out.trans (HB.out.mono (by have := HG.out; omega))⟩
    case pos =>
      have hltI : (r : Int) < (m : Int) := by omega
      have wr1 : IntKind.i64.wrap ((r : Int) + 1) = (r : Int) + 1 := IntWalk.i64_in _ (by omega)
      go_wp2_with fail
      obtain ⟨wo, rfl⟩ : ∃ wo, wo = wr := ⟨wr, rfl⟩
      go_loopw [3, 13] (fun ov kv wr => ∃ (k n : Nat) (A : Option Addr) (c : Nat), k ≤ r + 1 ∧ kv = .int .i64 k ∧ ov = .slice A n c ∧ OwnR wr (g + 1) wr.heap.size A n c (smR x1 x2 x3 r ++ smK x1 x2 x3 r k) ∧ Below (g + 1) w1 wr)
        (fun _ kv _ => r + 1 - (intOf kv).toNat)
      case atStart => exact ⟨0, n, A, c, Nat.zero_le _, rfl, rfl, by simpa [smK] using HO.out, HB.out⟩
      case round =>
        obtain ⟨k, n, A, c, hk, rfl, rfl, hown, hbw⟩ := hrel
        clear HO HB
        have HO := Lib.hid hown
        have HB := Lib.hid hbw
        have hn98 : n ≤ 98 := by
          have h5 := hown.1
          have h6 := smR_len x1 x2 x3 r
          have h7 := smK_len x1 x2 x3 r k
          have h8 := tri_small (r := r) (by omega)
          rw [List.length_append] at h5
          omega
        clear hown hbw
        by_cases hkr : k < r + 1
        case neg =>
          have hkI : ¬ (k : Int) < (r : Int) + 1 := by omega
          have HKE : Hid (k = r + 1) := Lib.hid (by omega)
          go_wp2
          go_roundw
          case rel => exact ⟨r + 1, n, A, c, by omega, by go_num, rfl, by have := HO.out; rw [HKE.out] at this; exact this, HB.out⟩
          case measure => simp [intOf]; omega
        case pos =>
          have hkI : (k : Int) < (r : Int) + 1 := by omega
          obtain ⟨a, ha⟩ : ∃ a, a = tri r + k := ⟨_, rfl⟩
          have hat : a < tri m := by rw [ha]; exact tri_lt hlt (by omega)
          have HAT : Hid (a < n1 ∧ a < n2 ∧ a < n3 ∧ a = tri r + k) := Lib.hid (by have := HLL.out; omega)
          have HPL := Lib.hid (fun w => smallPlace_at (i := (r : Int)) (j := (k : Int)) r k a rfl rfl ha w (by omega) (by omega))
          have hsi := And.intro (HS.out.1.below HB.out (by have := HSZ.out; omega)) (And.intro (HS.out.2.1.below HB.out (by have := HSZ.out; omega)) (HS.out.2.2.below HB.out (by have := HSZ.out; omega)))
          have HSI := Lib.hid hsi
          have HK := Lib.hid (HK1.out.below HB.out (by omega))
          have hq := cells4 HK.out
          have HQ := Lib.hid hq
          have hqd : wr.drew.cell? ⟨g, 0, none⟩ = some (.int .i64 m) ∧ wr.drew.cell? ⟨g, 1, none⟩ = some (.slice A1 n1 c1) ∧ wr.drew.cell? ⟨g, 2, none⟩ = some (.slice A2 n2 c2) ∧ wr.drew.cell? ⟨g, 3, none⟩ = some (.slice A3 n3 c3) := hq
          have HQD := Lib.hid hqd
          have HLT : Hid (g < wr.heap.size ∧ g + 1 ≤ wr.heap.size) := Lib.hid (by have := HB.out.size; have := HSZ.out; omega)
          have HT : Hid (triA x1 x2 x3 r k = (nth x1 a, nth x2 a, nth x3 a)) := Lib.hid (by unfold triA; rw [ha])
          obtain ⟨t1, ht1⟩ : ∃ t1, t1 = nth x1 a := ⟨_, rfl⟩
          obtain ⟨t2, ht2⟩ : ∃ t2, t2 = nth x2 a := ⟨_, rfl⟩
          obtain ⟨t3, ht3⟩ : ∃ t3, t3 = nth x3 a := ⟨_, rfl⟩
          have HATC := Lib.hid (fun w' (hb' : Below wr.heap.size wr w') => pzAt_any (m : Int) A1 A2 A3 n1 c1 n2 c2 n3 c3 x1 x2 x3 a w' (hsi.1.below hb' (Nat.le_refl _)) (hsi.2.1.below hb' (Nat.le_refl _)) (hsi.2.2.below hb' (Nat.le_refl _)) ⟨HAT.out.1, HAT.out.2.1, HAT.out.2.2.1⟩)
          rw [← ht1, ← ht2, ← ht3] at HATC HT
          clear hsi hq ht1 ht2 ht3 ha hat
          go_wp2_with fail
          go_region_held3 (fun w' => w'.cell? ⟨g, 0, none⟩ = some (.int .i64 m) ∧ w'.cell? ⟨g, 1, none⟩ = some (.slice A1 n1 c1) ∧ w'.cell? ⟨g, 2, none⟩ = some (.slice A2 n2 c2) ∧ w'.cell? ⟨g, 3, none⟩ = some (.slice A3 n3 c3))
            (first | exact HQD.out | exact HQ.out | exact K4 | exact cells4 (HK4.out.alloc _) | exact K5)
            (first
              | (refine step_append_lies _ (by rfl) (.tmp 16) (.tmp 22) 104 (by rfl) (g + 1) 123 i0 _ 3 24 Tryd.underlying104 HI.out.1 HI.out.2.1 HI.out.2.2.1 HI.out.2.2.2 rfl (by omega) (.slice A n c) n _ (by rfl) (HE4.out.2.1.alloc _)
                   ⟨w4.heap.size, 0, none⟩ 1 1 [.int .i64 t1, .int .i64 t2, .int .i64 t3] (by rfl) (by rfl) (World.news_of_block (cs := #[.int .i64 t1, .int .i64 t2, .int .i64 t3]) (t := 123) (fr := (0, 0)) (heap_alloc_new w4 _)) (by simp [Value.oneCell'])
                   (by omega) (by unfold maxLen; omega) (by omega) (by have := HW4.out.size; have := HLT.out; simp; omega) (w4.heap.size + 1) (by simp) ?_
                 intro ga cap w5 hrow5 hgrow hat5 hlt5
                 have HR5 := Lib.hid hrow5
                 have HG5 := Lib.hid hgrow
                 have HA5 := Lib.hid hat5
                 have K5 : w5.cell? ⟨g, 0, none⟩ = some (.int .i64 m) ∧ w5.cell? ⟨g, 1, none⟩ = some (.slice A1 n1 c1) ∧ w5.cell? ⟨g, 2, none⟩ = some (.slice A2 n2 c2) ∧ w5.cell? ⟨g, 3, none⟩ = some (.slice A3 n3 c3) := cells4 ((HK4.out.alloc _).grown hgrow (fun e => by have := HE4.out.2.2.2 g e.symm; omega))
                 clear hrow5 hgrow hat5)
              | (go_at_call 104; with_reducible refine (HPL.out _).mono ?_; rintro e w3 ⟨rfl, rfl⟩)
              | (go_at_call 107
                 with_reducible refine (HATC.out _ ((Below.refl _ _).drew)).mono ?_
                 rintro e w4 ⟨rfl, hb4⟩
                 have HW4 : Hid (Below wr.heap.size wr w4) := Lib.hid (((Below.refl _ _).drew).trans hb4)
                 have HK4 := Lib.hid (HK.out.below HW4.out HLT.out.1)
                 have K4 : w4.cell? ⟨g, 0, none⟩ = some (.int .i64 m) ∧ w4.cell? ⟨g, 1, none⟩ = some (.slice A1 n1 c1) ∧ w4.cell? ⟨g, 2, none⟩ = some (.slice A2 n2 c2) ∧ w4.cell? ⟨g, 3, none⟩ = some (.slice A3 n3 c3) := cells4 HK4.out
                 obtain ⟨E4, hE4⟩ := (HO.out.below HW4.out (Nat.le_refl _)).named
                 have HE4 := Lib.hid hE4
                 clear hb4 hE4))
          have HO5 : Hid (OwnR w5 (g + 1) w5.heap.size (some ⟨ga, 0, none⟩) (n + 1) cap (smR x1 x2 x3 r ++ smK x1 x2 x3 r k ++ [triA x1 x2 x3 r k])) := Lib.hid ⟨by rw [List.length_append, HE4.out.2.2.1]; rfl, by
            rw [cellsR_app, ← HE4.out.1, HT.out]; exact HR5.out, fun q hq => by injection hq with hq; rw [← hq]; exact hlt5⟩
          have HB5 : Hid (Below (g + 1) w1 w5) := Lib.hid (by
            have g1 : Below (g + 1) w1 w4 := HB.out.trans (HW4.out.mono HLT.out.2)
            have g2 : Below (g + 1) w4 (w4.alloc (.cells #[.int .i64 t1, .int .i64 t2, .int .i64 t3] 123)) := (Below.refl _ _).alloc (by have := HW4.out.size; have := HLT.out; omega) _
            exact (g1.trans g2).grown HG5.out (by have := HW4.out.size; have := HLT.out; simp; omega) (fun q hq => (HE4.out.2.2.2 q hq).1))
          have HK5 : Hid (Blk w5 g 54 #[.int .i64 m, .slice A1 n1 c1, .slice A2 n2 c2, .slice A3 n3 c3]) := Lib.hid (HK1.out.below HB5.out (by omega))
          clear HI HQ HQD HE4 HR5 HG5 HA5 HK4 HW4 K4 K5 HATC HK HSI
          by_cases hk0 : 0 < k
          case neg =>
            have hk0I : ¬ (0 : Int) < (k : Int) := by omega
            have HSU := Lib.hid (smK_none (x1 := x1) (x2 := x2) (x3 := x3) (r := r) hk0)
            clear hk0
            go_wp2
            go_roundw
            case rel => exact ⟨k + 1, n + 1, _, cap, by omega, by go_num, rfl, by rw [HSU.out, ← List.append_assoc]; exact HO5.out, HB5.out⟩
            case measure => simp [intOf]; omega
          case pos =>
            have hk0I : (0 : Int) < (k : Int) := by omega
            have HSU := Lib.hid (smK_pos (x1 := x1) (x2 := x2) (x3 := x3) (r := r) hk0)
            have hsi := And.intro (HS.out.1.below HB5.out (by have := HSZ.out; omega)) (And.intro (HS.out.2.1.below HB5.out (by have := HSZ.out; omega)) (HS.out.2.2.below HB5.out (by have := HSZ.out; omega)))
            have HTC := Lib.hid (pzTip_any (m : Int) A1 A2 A3 n1 c1 n2 c2 n3 c3 x1 x2 x3 r k w5 hsi.1 hsi.2.1 hsi.2.2 (by omega) hk0 (by omega) (by have := HAT.out; have e := HAT.out.2.2.2; rw [← e]; omega))
            obtain ⟨q0, q1, q2, q3⟩ := cells4 HK5.out
            have HGS : Hid (g + 1 ≤ w5.heap.size) := Lib.hid HK5.out.lt
            clear hk0 hsi
            go_wp2_with (first
              | (go_at_call 108; with_reducible refine HTC.out.mono ?_; rintro e w6 ⟨rfl, hb6⟩
                 have HO6 := Lib.hid ((HO5.out.below hb6 (Nat.le_refl _)).wide (Nat.le_refl _) hb6.size)
                 have HB6 : Hid (Below (g + 1) w1 w6) := Lib.hid (HB5.out.trans (hb6.mono HGS.out))
                 have HG6 : Hid (g + 1 ≤ w6.heap.size) := Lib.hid (Nat.le_trans HGS.out hb6.size)
                 clear hb6)
              | (at_builtin; refine wpList_appendR rfl (.tmp 26) (.tmp 31) rfl (g + 1) (some ⟨ga, 0, none⟩) (n + 1) cap _ (tipA x1 x2 x3 r k) rfl rfl HO6.out HG6.out (by omega) ?_; intro A7 c7 w7 ho7 hb7 _; have HO7 := Lib.hid ho7; have HB7 : Hid (Below (g + 1) w1 w7) := Lib.hid (HB6.out.trans hb7); clear ho7 hb7))
            go_roundw
            case rel => exact ⟨k + 1, n + 1 + 1, _, c7, by omega, by go_num, rfl, by rw [HSU.out, ← List.append_assoc, ← List.append_assoc]; exact HO7.out, HB7.out⟩
            case measure => simp [intOf]; omega
end Go.Proofs.YtdiiaallklkomaaDoor

/-
  Small triangles compared. No conditions.
-/


namespace Go.Proofs.YtdiiaallklkomaaDoor
open Go.RowKit

theorem Tryd.triFields : (Tryd.prog.fieldsOf 123).toList.map (fun f => (f.name == "_", f.type, f.offset)) = [(false, 3, 0), (false, 3, 1), (false, 3, 2)] := by kernel_rfl
theorem Tryd.triGuard : Tryd.prog.eqGuardType Tryd.prog.depth 123 = false := by kernel_rfl
theorem Tryd.triHeld : Tryd.prog.stoodInHeld 123 = false := by kernel_rfl
theorem Tryd.triUnd : Tryd.prog.underlying 123 = some (.struct (Tryd.prog.fieldsOf 123)) := by kernel_rfl
theorem run_eql_tri (w : World) (a b c a' b' c' : Int) : (Go.binOp .eql 123 (.agg #[.int .i64 a, .int .i64 b, .int .i64 c]) (.agg #[.int .i64 a', .int .i64 b', .int .i64 c'])).run Tryd.prog w = .ok (.bool (decide ((a, b, c) = (a', b', c')))) w := by
  rw [run_eql_struct, run_equalIn_struct w 9999 _ _ _ Tryd.triUnd Tryd.triHeld]
  have hf := Tryd.triFields
  generalize (Tryd.prog.fieldsOf 123).toList = fs at hf ⊢
  have hlen : fs.length = 3 := by have := congrArg List.length hf; simpa using this
  obtain ⟨f1, f2, f3, rfl⟩ : ∃ f1 f2 f3, fs = [f1, f2, f3] := by
    match fs, hlen with
    | [f1, f2, f3], _ => exact ⟨f1, f2, f3, rfl⟩
  simp only [List.map_cons, List.map_nil, List.cons.injEq, Prod.mk.injEq, and_true] at hf
  obtain ⟨⟨n1, t1, o1⟩, ⟨n2, t2, o2⟩, ⟨n3, t3, o3⟩⟩ := hf
  have m1 : ¬ f1.name = "_" := by simpa using n1
  have m2 : ¬ f2.name = "_" := by simpa using n2
  have m3 : ¬ f3.name = "_" := by simpa using n3
  simp [Op.eqFields, m1, m2, m3, t1, t2, t3, o1, o2, o3, part, isAgg, run_underlying Tryd.underlying3, run_equalIn_int]
  by_cases h1 : a = a' <;> by_cases h2 : b = b' <;> by_cases h3 : c = c' <;> simp [h1, h2, h3]
theorem run_guard_tri (w : World) (x y : Operand) (xs ys : Array Value) : (eqGuard .eql 123 x y (.agg xs) (.agg ys)).run Tryd.prog w = .ok () w := run_eqGuard_agg w .eql _ x y xs ys Tryd.triGuard
end Go.Proofs.YtdiiaallklkomaaDoor
