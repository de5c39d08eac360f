/-
  Texts Words to ShpL, merged. Conditions: as each says.
-/
import Derived.Test.YtjpoliibljjhnaaRows
import Derived.WalkKit
import Derived.WalkSpells
import Derived.WalkLawsBesides
import Derived.Deep.QuietTactic
import Derived.BigQuiet
import Derived.Handy
import Derived.Lib.Hide
import Derived.Deep.AppendLies
import Derived.Laws.OwnMore
import Derived.Maps.AppendAt
import Derived.Deep.MidRow
import Derived.RegionTactic
import Derived.BigRegion
import Derived.Sort.Grow
import Derived.Deep.DeepAppendRoom
import Derived.Lib.AppendZeros
/-
  Words for memory: a slice of integers that reads as a list; plain lemmas. No conditions.
-/










namespace Go.Proofs.Ytjpoliibljjhnaa
open Go.RowKit

theorem add_pt (b o k : Nat) : (Addr.mk b o none).add k = ⟨b, o + k, none⟩ := Addr.add_lit b o k

/-- The k-th number of a list (not unfolded by the walk). -/
def nth (xs : List Int) (k : Nat) : Int := xs.getD k 0
theorem nth_get {xs : List Int} {k : Nat} (h : k < xs.length) : nth xs k = xs[k] := by simp [nth, List.getD, h]
theorem nth_get? {xs : List Int} {k : Nat} (h : k < xs.length) : xs[k]? = some (nth xs k) := by simp [nth, List.getD, h]
theorem take_nth {xs : List Int} {k : Nat} (h : k < xs.length) : xs.take (k + 1) = xs.take k ++ [nth xs k] := by
  rw [List.take_succ_eq_append_getElem h, nth_get h]

/-- The slice (A, n) reads as the integers xs. -/
def SI (w : World) (A : Option Addr) (n : Nat) (xs : List Int) : Prop :=
  xs.length = n ∧ (0 < n → ∃ b o, A = some ⟨b, o, none⟩ ∧ b < w.heap.size ∧ ∀ k, k < n → w.cell? ⟨b, o + k, none⟩ = some (.int .i64 (nth xs k)))

section
variable {w w' : World} {A : Option Addr} {n : Nat} {xs : List Int}
theorem SI.nil (w : World) (A : Option Addr) : SI w A 0 [] := ⟨rfl, fun h => absurd h (by omega)⟩
theorem SI.at_ (h : SI w A n xs) (hn : 0 < n) : ∃ b o, A = some ⟨b, o, none⟩ ∧ b < w.heap.size ∧ ∀ k, k < n → w.cell? ⟨b, o + k, none⟩ = some (.int .i64 (nth xs k)) := h.2 hn
theorem SI.below {B : Nat} (h : SI w A n xs) (hb : Below B w w') (hB : w.heap.size ≤ B) : SI w' A n xs :=
  ⟨h.1, fun hn => by
    obtain ⟨b, o, e, hl, hc⟩ := h.2 hn
    have hs := hb.size
    exact ⟨b, o, e, by omega, fun k hk => (hb.cell (p := ⟨b, o + k, none⟩) (by show b < B; omega)).trans (hc k hk)⟩⟩
theorem SI.drewN (h : SI w A n xs) (k : Nat) : SI (w.drewN k) A n xs := h
theorem SI.drew (h : SI w A n xs) : SI w.drew A n xs := h
theorem SI.alloc (h : SI w A n xs) (o : Obj) : SI (w.alloc o) A n xs := h.below ((Below.refl w.heap.size w).alloc (Nat.le_refl _) o) (Nat.le_refl _)
theorem nth_take {k j : Nat} (hj : j < k) : nth (xs.take k) j = nth xs j := by simp [nth, List.getD, hj]
theorem SI.take {k : Nat} (h : SI w A n xs) (hk : k ≤ n) : SI w A k (xs.take k) := by
  refine ⟨by rw [List.length_take, h.1]; omega, fun h0 => ?_⟩
  obtain ⟨b, o, e, hb, hc⟩ := h.2 (by omega)
  exact ⟨b, o, e, hb, fun j hj => by rw [nth_take hj]; exact hc j (by omega)⟩
theorem SI.of_own {base : Nat} {c : Nat} (h : w.ownsRow base 3 1 (.slice A n c) n (xs.map (Value.int .i64))) : SI w A n xs := by
  have h1 := h.1
  simp at h1
  refine ⟨h1, fun hn => ?_⟩
  obtain ⟨g, cap, hv, _, hlt⟩ := h.form hn
  have hA : A = some ⟨g, 0, none⟩ := by injection hv
  subst hA
  refine ⟨g, 0, rfl, hlt, fun k hk => ?_⟩
  have := h.cells (g := g) rfl k (.int .i64 (nth xs k)) (by rw [List.getElem?_map, nth_get? (show k < xs.length by omega)]; rfl)
  rw [add_pt] at this
  exact this
end

/-- w' is w but for draws. -/
def Drawn (w w' : World) : Prop := ∃ m, w' = w.drewN m
theorem Drawn.refl (w : World) : Drawn w w := ⟨0, rfl⟩
theorem Drawn.drewN {w w' : World} (h : Drawn w w') (n : Nat) : Drawn w (w'.drewN n) := by
  obtain ⟨m, rfl⟩ := h; exact ⟨m + n, by rw [World.drewN_drewN]⟩
theorem Drawn.trans {w w' w'' : World} (h : Drawn w w') (h' : Drawn w' w'') : Drawn w w'' := by
  obtain ⟨m, rfl⟩ := h'; exact h.drewN m
theorem Drawn.heap {w w' : World} (h : Drawn w w') : w'.heap = w.heap := by obtain ⟨m, rfl⟩ := h; rfl
theorem Drawn.below {w w' : World} (h : Drawn w w') (B : Nat) : Below B w w' := by obtain ⟨m, rfl⟩ := h; exact ⟨rfl, rfl, rfl, Nat.le_refl _, fun _ _ => rfl⟩
theorem Drawn.si {w w' : World} (h : Drawn w w') {A : Option Addr} {n : Nat} {xs : List Int} (hs : SI w A n xs) : SI w' A n xs := by obtain ⟨m, rfl⟩ := h; exact hs
/-- Block g is just the cells cs of element type t, none frozen. -/
def Blk (w : World) (g : Nat) (t : TypeId) (cs : Array Value) : Prop := w.heap[g]? = some (.cells cs t (0, 0))
section
variable {w w' : World} {g : Nat} {t : TypeId} {cs : Array Value}
theorem Blk.lt (h : Blk w g t cs) : g < w.heap.size := by
  rcases Nat.lt_or_ge g w.heap.size with hlt | hge
  · exact hlt
  · unfold Blk at h; rw [Array.getElem?_eq_none hge] at h; cases h
theorem Blk.cell (h : Blk w g t cs) (i : Nat) : w.cell? ⟨g, i, none⟩ = cs[i]? := cell_of_row w g i cs t (0, 0) h
theorem Blk.frozen (h : Blk w g t cs) (i : Nat) : w.frozen? ⟨g, i, none⟩ = false := by
  unfold Blk at h
  simp [World.frozen?, h]
theorem Blk.new (w : World) (t : TypeId) (cs : Array Value) : Blk (w.alloc (.cells cs t)) w.heap.size t cs := heap_alloc_new w _
theorem Blk.drawn (h : Blk w g t cs) (hd : Drawn w w') : Blk w' g t cs := by obtain ⟨m, rfl⟩ := hd; exact h
theorem Blk.drewN (h : Blk w g t cs) (n : Nat) : Blk (w.drewN n) g t cs := h
theorem Blk.alloc (h : Blk w g t cs) (o : Obj) : Blk (w.alloc o) g t cs := (Below.heap_alloc w o g h.lt).trans h
theorem Blk.set_ (h : Blk w g t cs) (i : Nat) (u : Value) : Blk (w.setCell ⟨g, i, none⟩ u) g t (cs.setIfInBounds i u) := by
  unfold Blk at h ⊢
  simp [World.setCell, Array.getElem?_modify, h]
theorem Blk.far (h : Blk w g t cs) {p : Addr} (hp : g ≠ p.block) (u : Value) : Blk (w.setCell p u) g t cs := (Below.heap_setCell w p u g hp).trans h
theorem Blk.below {B : Nat} (h : Blk w g t cs) (hb : Below B w w') (hg : g < B) : Blk w' g t cs := (hb.block g hg).trans h
theorem Blk.row (h : Blk w g t cs) (cs' : Array Value) : Blk (w.setRow g cs') g t cs' := setRow_heap w g cs cs' t (0, 0) h
theorem Blk.row_far {g' : Nat} (h : Blk w g t cs) (hne : g ≠ g') (cs' : Array Value) : Blk (w.setRow g' cs') g t cs := (setRow_other w g' g cs' hne).trans h
theorem Blk.grown {row : Option Nat} (h : Blk w g t cs) (hb : w.grownBy w' row) (hg : some g ≠ row) : Blk w' g t cs := (hb.block g h.lt hg).trans h
end
theorem grownBy_setRow (w : World) (g : Nat) (cs : Array Value) : w.grownBy (w.setRow g cs) (some g) := ⟨rfl, rfl, rfl, by simp, fun k _ hk => setRow_other w g k cs (fun e => hk (by rw [e]))⟩

/-- A whole array stored into a block that is known: the world behind it is a variable. -/
theorem wpList_store_blk {P : Program} {ops : Array Oper} {rest : List Oper} {o : Oper} {a : Act} {w : World} {Q : Exit → Act → World → Prop} (hgd : o.guard = none) (ty : TypeId) (x y : Operand) (ho : o.op = .store ty x y)
    (g : Nat) (cs : Array Value) (hx : a.eval x = .pointer (some ⟨g, 0, none⟩)) (hy : a.eval y = .agg cs) (t : TypeId) (old : Array Value) (hg : Blk w g t old)
    (hi : (P.info? ty).map (·.size) = some cs.size) (hsz : old.size = cs.size) (h1 : cs.all (·.oneCell') = true)
    (hK : ∀ w', Blk w' g t cs → w.grownBy w' (some g) → wpList P ops Q rest (a.put o.dst undef) w') : wpList P ops Q (o :: rest) a w := by
  refine wpList_plain hgd fun K hK' => ?_
  unfold Oper.wp execOp
  simp only [ho, hx, hy, Instr.storeAt, Instr.sureAddr, Sem.run_bind, Sem.run_pure, Result.andThen_ok, run_storeVar_row w g t ty old cs hg hi hsz h1]
  exact hK' _ _ (hK _ (hg.row cs) (grownBy_setRow w g cs))
/-- A whole array read out of a block that is known. -/
theorem wpList_load_blk {P : Program} {ops : Array Oper} {rest : List Oper} {o : Oper} {a : Act} {w : World} {Q : Exit → Act → World → Prop} (hgd : o.guard = none) (ty : TypeId) (x : Operand) (ho : o.op = .load ty x)
    (g : Nat) (hx : a.eval x = .pointer (some ⟨g, 0, none⟩)) (t : TypeId) (cs : Array Value) (n : Nat) (e : TypeId) (hg : Blk w g t cs)
    (hu : P.underlying ty = some (.array n e)) (hi : (P.info? ty).map (·.size) = some cs.size)
    (h : wpList P ops Q rest (a.put o.dst (.agg cs)) w) : wpList P ops Q (o :: rest) a w :=
  wpList_load_row hgd ty x ho g hx t cs (0, 0) _ hg hu rfl hi h
/-- Two results, the first an array in a block that is known. -/
theorem results_blk_tmp {P : Program} {fn : Func} {p q : Tmp} {ty : TypeId} (h : fn.results = #[.cell p ty, .tmp q]) (tmps : Array Value) (w : World) (g : Nat) (t : TypeId) (cs : Array Value) (n : Nat) (e : TypeId)
    (hp : tmps.getD p undef = .pointer (some ⟨g, 0, none⟩)) (hg : Blk w g t cs) (hu : P.underlying ty = some (.array n e)) (hi : (P.info? ty).map (·.size) = some cs.size) :
    (results fn tmps).run P w = .ok (.tuple #[.agg cs, tmps.getD q undef]) w := by
  have hp' : tmps[p]?.getD undef = .pointer (some ⟨g, 0, none⟩) := by simpa using hp
  simp [results, h, hp', asAddr, run_loadVar_row w g t ty cs (0, 0) _ hg hu rfl hi]
theorem results_blk {P : Program} {fn : Func} {p : Tmp} {ty : TypeId} (h : fn.results = #[.cell p ty]) (tmps : Array Value) (w : World) (g : Nat) (t : TypeId) (cs : Array Value) (n : Nat) (e : TypeId)
    (hp : tmps.getD p undef = .pointer (some ⟨g, 0, none⟩)) (hg : Blk w g t cs) (hu : P.underlying ty = some (.array n e)) (hi : (P.info? ty).map (·.size) = some cs.size) :
    (results fn tmps).run P w = .ok (.agg cs) w :=
  results_cell_row h tmps w g t cs (0, 0) _ hp hg hu rfl hi
theorem dr2 {w : World} {m n : Nat} : ∃ k, (w.drewN m).drewN n = w.drewN k := ⟨m + n, by rw [World.drewN_drewN]⟩
theorem dr0 {w : World} : ∃ k, w = w.drewN k := ⟨0, rfl⟩
theorem below_drewN (B : Nat) (w : World) (n : Nat) : Below B w (w.drewN n) := ⟨rfl, rfl, rfl, Nat.le_refl _, fun _ _ => rfl⟩
theorem ret_eq {a b : Value} (h : a = b) : Ending.returned a = .returned b := by rw [h]
theorem ret_int {k : IntKind} {a b : Int} (h : a = b) : Ending.returned (.int k a) = .returned (.int k b) := by rw [h]
theorem ret_bool {a b : Bool} (h : a = b) : Ending.returned (.bool a) = .returned (.bool b) := by rw [h]

theorem Try.infoInt : (Try.prog.info? 3).map (fun i => (i.zero, i.size, i.bytes)) = some (some (.int .i64 0), 1, 8) := by kernel_rfl
end Go.Proofs.Ytjpoliibljjhnaa

/-
  The size of a slice of numbers that came in. Conditions: lengths below 2^63.
-/

namespace Go.Proofs.Ytjpoliibljjhnaa
open Go.RowKit

end Go.Proofs.Ytjpoliibljjhnaa

/-
  The helpers of the exact laws by their contracts: copying, comparing, marking, holding a slice of integers. Conditions: the length is at most 2^40.
-/

namespace Go.Proofs.Ytjpoliibljjhnaa
open Go.RowKit

/-- What a copying loop has made after k rounds. -/
def copied (xs : List Int) (k : Nat) : List Value := (xs.take k).map (Value.int .i64) ++ List.replicate (xs.length - k) (.int .i64 0)
theorem copied_zero (xs : List Int) : copied xs 0 = List.replicate xs.length (.int .i64 0) := by simp [copied]
theorem copied_all (xs : List Int) : copied xs xs.length = xs.map (Value.int .i64) := by simp [copied]
theorem copied_len (xs : List Int) (k : Nat) (h : k ≤ xs.length) : (copied xs k).length = xs.length := by simp [copied]; omega
theorem copied_get (xs : List Int) (k : Nat) (h : k < xs.length) : (copied xs k)[k]? = some (.int .i64 0) := by
  unfold copied
  rw [List.getElem?_append_right (by simp; omega)]
  rw [List.getElem?_replicate]
  simp; omega
theorem copied_succ (xs : List Int) (k : Nat) (h : k < xs.length) : (copied xs k).set k (.int .i64 (nth xs k)) = copied xs (k + 1) := by
  unfold copied
  have hl : (List.map (Value.int .i64) (xs.take k)).length = k := by simp; omega
  rw [List.set_append_right _ _ (by omega), hl]
  have e : xs.length - k = (xs.length - (k + 1)) + 1 := by omega
  rw [e, List.replicate_succ, Nat.sub_self, List.set_cons_zero, take_nth h, List.map_append, List.append_assoc]
  rfl

set_option maxHeartbeats 400000 in
/-- toIntS: a copy of its own. -/
theorem toIntS_any (A : Option Addr) (n c : Nat) (xs : List Int) (w : World) (hs : SI w A n xs) (hn : n ≤ 1099511627776) :
    Calls Try.prog 16 #[.slice A n c] w fun e w' =>
      e = .returned (.slice (some ⟨w.heap.size, 0, none⟩) n n) ∧ w'.ownsRow w.heap.size 3 1 (.slice (some ⟨w.heap.size, 0, none⟩) n n) n (xs.map (Value.int .i64)) ∧ Below w.heap.size w w' := by
  obtain ⟨i0, hi, hz0, hz1, hz2⟩ := info_parts Try.infoInt
  have hl := hs.1
  obtain ⟨B, hB⟩ : ∃ B, B = w.heap.size := ⟨_, rfl⟩
  have HB : Hid (B = w.heap.size) := hB
  have hBle : B ≤ w.heap.size := by omega
  go_enter Try.func16, Try.ntmps16
  go_wp2_with (at_make; refine wpList_make_full _ rfl (.tmp 6) (.tmp 6) 22 rfl w.heap.size 3 i0 (.int .i64 0) 1 Try.underlying22 hi hz0 hz1 .i64 .i64 (n : Int) (n : Int) n rfl rfl rfl rfl (by rw [hz2]; omega) (by unfold maxLen; omega) (Nat.le_refl _) ?_; intro w1 hown hgrow)
  rw [← hB] at hown ⊢
  go_loopw [4] (fun i wr => ∃ k : Nat, k ≤ n ∧ i = .int .i64 k ∧ wr.ownsRow B 3 1 (.slice (some ⟨B, 0, none⟩) n n) n (copied xs k) ∧ Below B w wr)
    (fun i _ => n - (intOf i).toNat)
  case atStart =>
    refine ⟨0, Nat.zero_le _, rfl, ?_, ?_⟩
    · rw [copied_zero, hl]
      simpa [toList_madeCells_one, Value.cells] using hown
    · exact ((Below.refl _ _).grown hgrow (by omega) (by intro k hk; cases hk))
  case round =>
    obtain ⟨k, hk, rfl, hown, hbel⟩ := hrel
    by_cases hlt : k < n
    · obtain ⟨b, o, rfl, hb, hc⟩ := hs.at_ (by omega)
      have hc1 : wr.cell? ⟨b, o + k, none⟩ = some (.int .i64 (nth xs k)) := (hbel.cell (p := ⟨b, o + k, none⟩) (by show b < B; omega)).trans (hc k hlt)
      have hc2 : wr.cell? ⟨B, k, none⟩ = some (.int .i64 0) := (hown.cellAt k (by omega)).trans (copied_get xs k (by omega))
      have hf2 : wr.frozen? ⟨B, k, none⟩ = false := hown.frozenAt k
      have hst := (hown.stored k (.int .i64 (nth xs k))).1
      rw [copied_succ xs k (by omega)] at hst
      have HS := Lib.hid hst
      have HBel := Lib.hid hbel
      clear hst hown hbel hc hB
      go_wp2
      go_roundw
      case rel => exact ⟨k + 1, by omega, by go_num, HS.out, HBel.out.setCell (Nat.le_refl _) _⟩
      case measure => simp [intOf]; omega
    · have hkn : k = n := by omega
      subst hkn
      go_wp2
      go_ret
      obtain rfl := HB.out
      refine ⟨rfl, ?_, ?_⟩
      · rw [← hl, copied_all] at hown; rw [← hl]; exact hown
      · exact hbel
/-- Equality of two lists as a Bool (not unfolded by the walk). -/
def eqL (xs ys : List Int) : Bool := decide (xs = ys)
theorem eqL_self (xs : List Int) : eqL xs xs = true := by simp [eqL]
theorem eqL_len {xs ys : List Int} (h : xs.length ≠ ys.length) : eqL xs ys = false := by
  simp only [eqL, decide_eq_false_iff_not]; intro e; exact h (by rw [e])
theorem eqL_all {xs ys : List Int} (hl : xs.length = ys.length) (h : ∀ j, j < xs.length → nth xs j = nth ys j) : eqL xs ys = true := by
  simp only [eqL, decide_eq_true_eq]
  apply List.ext_getElem hl
  intro j h1 h2
  have := h j h1
  rwa [nth_get h1, nth_get h2] at this
theorem eqL_ne {xs ys : List Int} {k : Nat} (h : nth xs k ≠ nth ys k) : eqL xs ys = false := by
  simp only [eqL, decide_eq_false_iff_not]; intro e; exact h (by rw [e])

set_option maxHeartbeats 400000 in
/-- eqIntS: are the two lists one. -/
theorem eqIntS_any (A A' : Option Addr) (n c n' c' : Nat) (xs ys : List Int) (w : World) (hs : SI w A n xs) (hs' : SI w A' n' ys) (hn : n ≤ 1099511627776) (hn' : n' ≤ 1099511627776) :
    Calls Try.prog 19 #[.slice A n c, .slice A' n' c'] w fun e w' => e = .returned (.bool (eqL xs ys)) ∧ Drawn w w' := by
  have hl := hs.1
  have hl' := hs'.1
  by_cases hne : n = n'
  · subst hne
    go_enter Try.func19, Try.ntmps19
    go_wp2
    go_loopw [5] (fun i wr => ∃ k : Nat, k ≤ n ∧ i = .int .i64 k ∧ Drawn w wr ∧ ∀ j, j < k → nth xs j = nth ys j)
      (fun i _ => n - (intOf i).toNat)
    case atStart => exact ⟨0, Nat.zero_le _, rfl, Drawn.refl _, fun j hj => absurd hj (by omega)⟩
    case round =>
      obtain ⟨k, hk, rfl, hD, hall⟩ := hrel
      have HA := Lib.hid hall
      have hs := hD.si hs
      have hs' := hD.si hs'
      have HD := Lib.hid hD
      clear hall hD
      by_cases hlt : k < n
      · obtain ⟨b, o, rfl, hb, hc⟩ := hs.at_ (by omega)
        obtain ⟨b', o', rfl, hb', hc'⟩ := hs'.at_ (by omega)
        have hc1 := hc k hlt
        have hc1' := hc' k hlt
        clear hc hc' hs hs' hl hl'
        by_cases heq : nth xs k = nth ys k
        · have HE := Lib.hid heq
          rw [← heq] at hc1'
          clear heq
          obtain ⟨x, hx⟩ : ∃ x, x = nth xs k := ⟨_, rfl⟩
          rw [← hx] at hc1 hc1'
          clear hx
          have hlI : (k : Int) < (n : Int) := by omega
          go_wp2_with fail
          go_quiet (fail)
          go_wp2
          go_roundw
          case rel => exact ⟨k + 1, by omega, by go_num, HD.out.drewN _, fun j hj => by
            rcases Nat.lt_or_ge j k with h | h
            · exact HA.out j h
            · obtain rfl : j = k := by omega
              exact HE.out⟩
          case measure => simp [intOf]; omega
        · have HE := Lib.hid heq
          obtain ⟨x, hx⟩ : ∃ x, x = nth xs k := ⟨_, rfl⟩
          obtain ⟨y, hy⟩ : ∃ y, y = nth ys k := ⟨_, rfl⟩
          rw [← hx] at hc1 heq
          rw [← hy] at hc1' heq
          clear hx hy
          have hlI : (k : Int) < (n : Int) := by omega
          have hb : (x != y) = true := by simpa using heq
          clear heq
          go_wp2_with fail
          go_quiet (fail)
          go_wp2
          go_ret
          exact ⟨ret_bool (eqL_ne HE.out).symm, HD.out.drewN _⟩
      · have hkn : k = n := by omega
        subst hkn
        go_wp2
        go_ret
        exact ⟨ret_bool (eqL_all (by omega) (by rw [hl]; exact HA.out)).symm, HD.out⟩
  · have hne' : ¬ (n : Int) = (n' : Int) := by omega
    go_enter Try.func19, Try.ntmps19
    go_wp2
    go_ret
    exact ⟨ret_bool (eqL_len (by omega)).symm, Drawn.refl _⟩

/-- The numbers j, j+1, .. that marking writes: k of them, over the first k places. -/
def marked (xs : List Int) (q : Int) (k : Nat) : List Value := (List.range k).map (fun (j : Nat) => Value.int .i64 (q + j)) ++ (xs.drop k).map (Value.int .i64)
def marks (n : Nat) (q : Int) : List Int := (List.range n).map (fun (j : Nat) => q + j)
theorem marked_zero (xs : List Int) (q : Int) : marked xs q 0 = xs.map (Value.int .i64) := by simp [marked]
theorem marked_all (xs : List Int) (q : Int) : marked xs q xs.length = (marks xs.length q).map (Value.int .i64) := by simp [marked, marks]
theorem marked_get (xs : List Int) (q : Int) (k : Nat) (h : k < xs.length) : (marked xs q k)[k]? = some (.int .i64 (nth xs k)) := by
  unfold marked
  rw [List.getElem?_append_right (by simp)]
  simp [nth_get h, h]
theorem marked_succ (xs : List Int) (q : Int) (k : Nat) (h : k < xs.length) : (marked xs q k).set k (.int .i64 (q + k)) = marked xs q (k + 1) := by
  unfold marked
  rw [List.set_append_right _ _ (by simp)]
  rw [List.drop_eq_getElem_cons h, List.range_succ]
  simp only [List.length_map, List.length_range, Nat.sub_self, List.map_cons, List.set_cons_zero, List.map_append, List.append_assoc, List.map_nil]
  rfl
theorem marks_len (n : Nat) (q : Int) : (marks n q).length = n := by simp [marks]
theorem marks_nth (n : Nat) (q : Int) (k : Nat) (h : k < n) : nth (marks n q) k = q + k := by simp [nth, marks, List.getD, h]

set_option maxHeartbeats 400000 in
/-- markIntS on a slice of the call's own: it then holds q, q+1, .. -/
theorem markIntS_own (g n c : Nat) (xs : List Int) (q : Int) (base : Nat) (w : World) (hs : w.ownsRow base 3 1 (.slice (some ⟨g, 0, none⟩) n c) n (xs.map (Value.int .i64)))
    (hn : n ≤ 1099511627776) (hq : 0 ≤ q) (hq' : q ≤ 1099511627776) :
    Calls Try.prog 20 #[.slice (some ⟨g, 0, none⟩) n c, .int .i64 q] w fun e w' =>
      e = .returned (.int .i64 (q + n)) ∧ w'.ownsRow base 3 1 (.slice (some ⟨g, 0, none⟩) n c) n ((marks n q).map (Value.int .i64)) ∧ w.grownBy w' (some g) := by
  have hl : xs.length = n := by have := hs.1; simpa using this
  go_enter Try.func20, Try.ntmps20
  go_wp2
  go_loopw [1, 5] (fun p i wr => ∃ k : Nat, k ≤ n ∧ i = .int .i64 k ∧ p = .int .i64 (q + k) ∧ wr.ownsRow base 3 1 (.slice (some ⟨g, 0, none⟩) n c) n (marked xs q k) ∧ w.grownBy wr (some g))
    (fun _ i _ => n - (intOf i).toNat)
  case atStart => exact ⟨0, Nat.zero_le _, rfl, by simp, by rw [marked_zero]; exact hs, World.grownBy.refl _ _⟩
  case round =>
    obtain ⟨k, hk, rfl, rfl, hown, hgr⟩ := hrel
    by_cases hlt : k < n
    · have hc2 : wr.cell? ⟨g, k, none⟩ = some (.int .i64 (nth xs k)) := (hown.cellAt k (by omega)).trans (marked_get xs q k (by omega))
      have hf2 : wr.frozen? ⟨g, k, none⟩ = false := hown.frozenAt k
      have hst := hown.stored k (.int .i64 (q + k))
      rw [marked_succ xs q k (by omega)] at hst
      have HS := Lib.hid hst.1
      have HG := Lib.hid (hgr.trans hst.2)
      clear hst hown hgr
      go_wp2
      go_roundw
      case rel => exact ⟨k + 1, by omega, by go_num, by go_num, HS.out, HG.out⟩
      case measure => simp [intOf]; omega
    · have hkn : k = n := by omega
      subst hkn
      go_wp2
      go_ret
      refine ⟨rfl, ?_, hgr⟩
      rw [← hl, marked_all] at hown; rw [← hl]; exact hown

set_option maxHeartbeats 400000 in
/-- heldIntS where the marks are held. -/
theorem heldIntS_yes (A : Option Addr) (n c : Nat) (q : Int) (w : World) (hs : SI w A n (marks n q)) (hn : n ≤ 1099511627776) (hq : 0 ≤ q) (hq' : q ≤ 1099511627776) :
    Calls Try.prog 34 #[.slice A n c, .int .i64 q] w fun e w' => e = .returned (.int .i64 (q + n)) ∧ Drawn w w' := by
  go_enter Try.func34, Try.ntmps34
  go_wp2
  go_loopw [1, 5] (fun p i wr => ∃ k : Nat, k ≤ n ∧ i = .int .i64 k ∧ p = .int .i64 (q + k) ∧ Drawn w wr)
    (fun _ i _ => n - (intOf i).toNat)
  case atStart => exact ⟨0, Nat.zero_le _, rfl, by simp, Drawn.refl _⟩
  case round =>
    obtain ⟨k, hk, rfl, rfl, hD⟩ := hrel
    have hs := hD.si hs
    have HD := Lib.hid hD
    clear hD
    by_cases hlt : k < n
    · obtain ⟨b, o, rfl, hb, hc⟩ := hs.at_ (by omega)
      have hc1 := hc k hlt
      rw [marks_nth n q k hlt] at hc1
      clear hc hs
      go_wp2
      go_roundw
      case rel => exact ⟨k + 1, by omega, by go_num, by go_num, HD.out⟩
      case measure => simp [intOf]; omega
    · have hkn : k = n := by omega
      subst hkn
      go_wp2
      go_ret
      exact ⟨rfl, HD.out⟩
end Go.Proofs.Ytjpoliibljjhnaa

/-
  Slices of integers that a call owns: words and laws (appending one number, copying a whole slice, marking). No conditions beyond lengths below 2^40.
-/


namespace Go.Proofs.Ytjpoliibljjhnaa
open Go.RowKit

/-- The slice (A, n, c) holds the integers xs in a block of its own between lo and hi (or is nil). -/
def Own (w : World) (lo hi : Nat) (A : Option Addr) (n c : Nat) (xs : List Int) : Prop :=
  w.ownsRow lo 3 1 (.slice A n c) n (xs.map (Value.int .i64)) ∧ ∀ k, (Value.slice A n c).ownBlock = some k → k < hi

section
variable {w w' : World} {lo hi n c : Nat} {A : Option Addr} {xs : List Int}
theorem Own.len (h : Own w lo hi A n c xs) : xs.length = n := by simpa using h.1.1
theorem Own.si (h : Own w lo hi A n c xs) : SI w A n xs := SI.of_own h.1
theorem Own.cap (h : Own w lo hi A n c xs) : n ≤ c := by
  rcases h.1.2 with ⟨e, h0⟩ | ⟨g, cap, cur, e, _, _, hc, _⟩
  · omega
  · injection e with _ _ e3; omega
theorem Own.nil (w : World) (lo hi : Nat) : Own w lo hi none 0 0 [] := ⟨World.ownsRow_nil _ _ _ _, fun k hk => by simp [Value.ownBlock] at hk⟩
theorem Own.of (h : w.ownsRow lo 3 1 (.slice A n c) n (xs.map (Value.int .i64))) : Own w lo w.heap.size A n c xs := ⟨h, fun k hk => (h.lt k hk).2⟩
theorem Own.lt (h : Own w lo hi A n c xs) : ∀ k, (Value.slice A n c).ownBlock = some k → lo ≤ k ∧ k < hi := fun k hk => ⟨(h.1.lt k hk).1, h.2 k hk⟩
theorem Own.grown {row : Option Nat} (h : Own w lo hi A n c xs) (hg : w.grownBy w' row) (hr : ∀ g, row = some g → g < lo ∨ hi ≤ g) : Own w' lo hi A n c xs := by
  refine ⟨h.1.kept hg ?_, h.2⟩
  cases hb : (Value.slice A n c).ownBlock with
  | none => exact .inl rfl
  | some k =>
    refine .inr fun e => ?_
    have := h.lt k hb
    have := hr k e.symm
    omega
theorem Own.below {B : Nat} (h : Own w lo hi A n c xs) (hb : Below B w w') (hB : hi ≤ B) : Own w' lo hi A n c xs := by
  refine ⟨⟨h.1.1, ?_⟩, h.2⟩
  rcases h.1.2 with hn | ⟨g, cap, cur, e, hl, hg, rest⟩
  · exact .inl hn
  · have hlt := h.2 g (by rw [e]; rfl)
    exact .inr ⟨g, cap, cur, e, hl, (hb.block g (by omega)).trans hg, rest⟩
theorem Own.drawn (h : Own w lo hi A n c xs) (hd : Drawn w w') : Own w' lo hi A n c xs := h.below (hd.below hi) (Nat.le_refl _)
theorem Own.wide {lo' hi' : Nat} (h : Own w lo hi A n c xs) (h1 : lo' ≤ lo) (h2 : hi ≤ hi') : Own w lo' hi' A n c xs := by
  refine ⟨⟨h.1.1, ?_⟩, fun k hk => Nat.lt_of_lt_of_le (h.2 k hk) h2⟩
  rcases h.1.2 with hn | ⟨g, cap, cur, e, hl, rest⟩
  · exact .inl hn
  · exact .inr ⟨g, cap, cur, e, Nat.le_trans h1 hl, rest⟩
theorem Own.cellAt {g k : Nat} (h : Own w lo hi (some ⟨g, 0, none⟩) n c xs) (hk : k < n) : w.cell? ⟨g, k, none⟩ = some (.int .i64 (nth xs k)) := by
  have hl := h.len
  rw [h.1.cellAt k (by omega), List.getElem?_map, nth_get? (by omega)]; rfl
theorem Own.frozenAt {g : Nat} (h : Own w lo hi (some ⟨g, 0, none⟩) n c xs) (k : Nat) : w.frozen? ⟨g, k, none⟩ = false := h.1.frozenAt k
theorem Own.place (h : Own w lo hi A n c xs) (hn : 0 < n) : ∃ g, A = some ⟨g, 0, none⟩ ∧ lo ≤ g ∧ g < hi := by
  obtain ⟨g, cap, e, h1, h2⟩ := h.1.form hn
  have hA : A = some ⟨g, 0, none⟩ := by injection e
  subst hA
  exact ⟨g, rfl, h1, h.2 g rfl⟩
theorem Own.set_ {g k : Nat} (h : Own w lo hi (some ⟨g, 0, none⟩) n c xs) (x : Int) :
    Own (w.setCell ⟨g, k, none⟩ (.int .i64 x)) lo hi (some ⟨g, 0, none⟩) n c (xs.set k x) ∧ w.grownBy (w.setCell ⟨g, k, none⟩ (.int .i64 x)) (some g) := by
  obtain ⟨h1, h2⟩ := h.1.stored k (.int .i64 x)
  refine ⟨⟨?_, h.2⟩, h2⟩
  rw [List.map_set]
  exact h1
end
theorem Own.empty (w : World) : Own (w.alloc (.cells #[] 3)) w.heap.size (w.heap.size + 1) (some ⟨w.heap.size, 0, none⟩) 0 0 [] :=
  ⟨World.ownsRow_lit w #[] 0 (Nat.le_refl _) (Nat.zero_le _) rfl, fun k hk => by simp [Value.ownBlock] at hk; omega⟩
theorem Below.alloc_self (w : World) (o : Obj) : Below w.heap.size w (w.alloc o) := (Below.refl _ _).alloc (Nat.le_refl _) _
theorem _root_.Go.RowKit.Below.drawnN {B : Nat} {a w : World} (h : Below B a w) (n : Nat) : Below B a (w.drewN n) := h.trans ⟨rfl, rfl, rfl, Nat.le_refl _, fun _ _ => rfl⟩
theorem grow_below {B : Nat} {w w' : World} {row : Option Nat} (hg : w.grownBy w' row) (hB : B ≤ w.heap.size) (hr : ∀ k, row = some k → B ≤ k) : Below B w w' := (Below.refl B w).grown hg hB hr

/-- What a call that makes a new slice hands back. -/
def Fresh (w w' : World) (e : Ending) (ys : List Int) : Prop :=
  ∃ A n c, e = .returned (.slice A n c) ∧ Own w' w.heap.size w'.heap.size A n c ys ∧ Below w.heap.size w w'

theorem Own.apart {w w' : World} {lo hi n c lo' hi' n' c' : Nat} {A A' : Option Addr} {xs xs' : List Int} (ho : Own w lo hi A n c xs) (hx : Own w lo' hi' A' n' c' xs')
    (hg : w.grownBy w' (Value.slice A' n' c').ownBlock) (h : hi ≤ lo' ∨ hi' ≤ lo) : Own w' lo hi A n c xs :=
  ho.grown hg fun g e => by have := hx.lt g e; omega
theorem Own.mark_below {w w' : World} {B lo hi n c : Nat} {A : Option Addr} {xs : List Int} (hx : Own w lo hi A n c xs) (hg : w.grownBy w' (Value.slice A n c).ownBlock) (hB : B ≤ w.heap.size) (hl : B ≤ lo) : Below B w w' :=
  grow_below hg hB fun k e => by have := hx.lt k e; omega

theorem toIntS_fr (A : Option Addr) (n c : Nat) (xs : List Int) (w : World) (hs : SI w A n xs) (hn : n ≤ 1099511627776) :
    Calls Try.prog 16 #[.slice A n c] w fun e w' => Fresh w w' e xs :=
  (toIntS_any A n c xs w hs hn).mono fun _ _ ⟨he, ho, hb⟩ => ⟨_, _, _, he, Own.of ho, hb⟩

set_option maxHeartbeats 400000 in
/-- markIntS on any slice of the call's own, nil and empty ones among them. -/
theorem markIntS_any (A : Option Addr) (n c lo hi : Nat) (xs : List Int) (q : Int) (w : World) (hs : Own w lo hi A n c xs) (hn : n ≤ 1099511627776) (hq : 0 ≤ q) (hq' : q ≤ 1099511627776) :
    Calls Try.prog 20 #[.slice A n c, .int .i64 q] w fun e w' => e = .returned (.int .i64 (q + n)) ∧ Own w' lo hi A n c (marks n q) ∧ w.grownBy w' (Value.slice A n c).ownBlock := by
  by_cases h0 : 0 < n
  · obtain ⟨g, rfl, _, _⟩ := hs.place h0
    exact (markIntS_own g n c xs q lo w hs.1 hn hq hq').mono fun e w' ⟨he, ho, hg⟩ => ⟨he, ⟨ho, hs.2⟩, hg⟩
  · have hz : n = 0 := by omega
    subst hz
    have hx : xs = [] := List.eq_nil_of_length_eq_zero hs.len
    subst hx
    have HS := Lib.hid hs
    clear hs
    go_enter Try.func20, Try.ntmps20
    go_wp2
    refine wp_loop_rounds 1 ?_
    rw [rounds_succ]
    go_wp2
    go_ret
    exact ⟨by simp, HS.out, World.grownBy.refl _ _⟩

/-- 'make([]int, n)'. -/
theorem wpList_make_zero {ops : Array Oper} {rest : List Oper} {o : Oper} {a : Act} {w : World} {Q : Exit → Act → World → Prop} (hgd : o.guard = none) (l c : Operand) (ho : o.op = .makeSlice 22 l c)
    (n : Nat) (hl : a.eval l = .int .i64 n) (hc : a.eval c = .int .i64 n) (hn : n ≤ 1099511627776)
    (hK : ∀ w', Own w' w.heap.size w'.heap.size (some ⟨w.heap.size, 0, none⟩) n n (List.replicate n 0) → Below w.heap.size w w' → wpList Try.prog ops Q rest (a.put o.dst (.slice (some ⟨w.heap.size, 0, none⟩) n n)) w') :
    wpList Try.prog ops Q (o :: rest) a w := by
  obtain ⟨i0, hi, hz0, hz1, hz2⟩ := info_parts Try.infoInt
  refine wpList_make_full w hgd l c 22 ho w.heap.size 3 i0 (.int .i64 0) 1 Try.underlying22 hi hz0 hz1 .i64 .i64 n n n hl hc rfl rfl (by rw [hz2]; omega) (by unfold maxLen; omega) (Nat.le_refl _) ?_
  intro w1 ho1 hg1
  have e : (madeCells (Value.int .i64 0).cells (n * 1)).toList = (List.replicate n (0 : Int)).map (Value.int .i64) := by
    rw [show (Value.int .i64 0).cells = #[Value.int .i64 0] from rfl, Nat.mul_one, toList_madeCells_one]; simp
  rw [e] at ho1
  exact hK w1 (Own.of ho1) (grow_below hg1 (Nat.le_refl _) (by intro k hk; cases hk))

/-- 'out = append(out, x)' on a slice of the call's own. -/
theorem wpList_append1 {ops : Array Oper} {rest : List Oper} {o : Oper} {a : Act} {w : World} {Q : Exit → Act → World → Prop} (hgd : o.guard = none) (s x : Operand)
    (ho : o.op = .call { callee := .builtin .append, args := #[s, x], argTypes := #[22, 22] })
    (lo : Nat) (A : Option Addr) (n c : Nat) (xs : List Int) (v : Int) (hs : a.eval s = .slice A n c) (hx : a.eval x = .slice (some ⟨w.heap.size, 0, none⟩) 1 1)
    (hown : Own w lo w.heap.size A n c xs) (hlo : lo ≤ w.heap.size) (hn : n ≤ 1099511627776)
    (hK : ∀ A' c' w', Own w' lo w'.heap.size A' (n + 1) c' (xs ++ [v]) → w.grownBy w' (Value.slice A n c).ownBlock → Below lo w w' → wpList Try.prog ops Q rest (a.put o.dst (.slice A' (n + 1) c')) w') :
    wpList Try.prog ops Q (o :: rest) a (w.alloc (.cells #[.int .i64 v] 3)) := by
  obtain ⟨i0, hi, hz0, hz1, hz2⟩ := info_parts Try.infoInt
  refine wpList_append_own _ hgd s x 22 ho lo 3 i0 (.int .i64 0) 1 8 Try.underlying22 hi hz0 hz1 hz2 rfl (by decide) _ _ _ hs (hown.1.alloc _) ⟨w.heap.size, 0, none⟩ 1 1 [.int .i64 v] hx rfl ?_ ?_ (by unfold maxLen; omega) (by omega) (by simp; omega) ?_
  · intro j u hj
    match j, hj with
    | 0, hj =>
      simp at hj
      subst hj
      rw [add_pt]
      exact (Blk.new w 3 #[.int .i64 v]).cell 0
  · intro u hu
    simp at hu
    subst hu
    rfl
  · intro v' w1 ho1 hg1 _
    have e1 : List.map (Value.int .i64) xs ++ [Value.int .i64 v] = (xs ++ [v]).map (Value.int .i64) := by simp
    rw [e1] at ho1
    obtain ⟨g, cap, rfl, _, _⟩ := ho1.form (by omega)
    have hg2 : w.grownBy w1 (Value.slice A n c).ownBlock := (World.grownBy_alloc w _ _).trans hg1
    exact hK _ _ w1 (Own.of ho1) hg2 (grow_below hg2 hlo (fun k hk => (hown.1.lt k hk).1))

set_option maxRecDepth 100000 in
/-- 'append([]int{}, l...)' and the like: a whole slice appended to an empty one that was just made. -/
theorem wpList_append_all {ops : Array Oper} {rest : List Oper} {o : Oper} {a : Act} {w : World} {Q : Exit → Act → World → Prop} (hgd : o.guard = none) (s x : Operand)
    (ho : o.op = .call { callee := .builtin .append, args := #[s, x], argTypes := #[22, 22] })
    (lo : Nat) (A : Option Addr) (n c : Nat) (xs : List Int) (A2 : Option Addr) (m c2 : Nat) (ys : List Int) (hs : a.eval s = .slice A n c) (hx : a.eval x = .slice A2 m c2)
    (hown : Own w lo w.heap.size A n c xs) (hsi : SI w A2 m ys) (hlo : lo ≤ w.heap.size) (hn : n ≤ 1099511627776) (hm : m ≤ 1099511627776)
    (hK : ∀ A' c' w', Own w' lo w'.heap.size A' (n + m) c' (xs ++ ys) → w.grownBy w' (Value.slice A n c).ownBlock → Below lo w w' → wpList Try.prog ops Q rest (a.put o.dst (.slice A' (n + m) c')) w') :
    wpList Try.prog ops Q (o :: rest) a w := by
  obtain ⟨i0, hi, hz0, hz1, hz2⟩ := info_parts Try.infoInt
  by_cases h0 : 0 < m
  · obtain ⟨b, off, rfl, hb, hc⟩ := hsi.2 h0
    refine wpList_append_own _ hgd s x 22 ho lo 3 i0 (.int .i64 0) 1 8 Try.underlying22 hi hz0 hz1 hz2 rfl (by decide) _ _ _ hs hown.1 ⟨b, off, none⟩ m c2 (ys.map (Value.int .i64)) hx (by simp [hsi.1]) ?_ (ints_oneCell _ _) (by unfold maxLen; omega) (by omega) hlo ?_
    · intro j u hj
      have hjl : j < ys.length := by
        rcases Nat.lt_or_ge j ys.length with h | h
        · exact h
        · rw [List.getElem?_eq_none (by simpa using h)] at hj; cases hj
      rw [List.getElem?_map, nth_get? hjl] at hj
      rw [add_pt, hc j (by have := hsi.1; omega)]
      exact hj
    · intro v' w1 ho1 hg1 _
      rw [← List.map_append] at ho1
      obtain ⟨g, cap, rfl, _, _⟩ := ho1.form (by omega)
      exact hK _ _ w1 (Own.of ho1) hg1 (grow_below hg1 hlo (fun k hk => (hown.1.lt k hk).1))
  · have hm0 : m = 0 := by omega
    subst hm0
    have hy : ys = [] := List.eq_nil_of_length_eq_zero hsi.1
    subst hy
    have hk0 := hK A c w (by simpa using hown) (World.grownBy.refl _ _) (Below.refl _ _)
    refine wpList_plain hgd fun K hK' => ?_
    have hrun : (Builtin.append_ #[22, 22] o.type #[.slice A n c, .slice A2 0 c2]).run Try.prog w = .ok (.slice A n c) w := by
      have hg := hown.1
      have hl0 : ∀ v, (loadCells v 0).run Try.prog w = .ok #[] w := fun v => by simp [loadCells, loadCellsFrom]
      rcases hg.2 with ⟨e, h0⟩ | ⟨g, cap, cur, e, _, hgg, hnc, _⟩
      · injection e with e1 e2 e3
        subst e1; subst e3; subst h0
        cases A2 <;> simp [Builtin.append_, run_underlying Try.underlying22, sizeOf, typeInfo, hi, Builtin.lenOf, Builtin.firstCells, hl0]
      · injection e with e1 e2 e3
        subst e1; subst e3
        cases A2 <;> simp [Builtin.append_, run_underlying Try.underlying22, sizeOf, typeInfo, hi, Builtin.lenOf, Builtin.firstCells, hnc, storeCells, hl0]
    unfold Oper.wp
    simp [execOp, ho, resolve, invoke, builtin, hs, hx, hrun, Result.andThen]
    exact hK' _ _ (by simpa using hk0)
end Go.Proofs.Ytjpoliibljjhnaa

/-
  What a permutation is: the specification's test by its contract. Conditions: the length is at most 2^40.
-/

namespace Go.Proofs.Ytjpoliibljjhnaa
open Go.RowKit

/-- Is a number among the first of a list (not unfolded by the walk). -/
def hasB (xs : List Int) (x : Int) : Bool := decide (x ∈ xs)
/-- Is place k of the list one that a permutation may have. -/
def goodAt (xs : List Int) (k : Nat) : Prop := 0 ≤ nth xs k ∧ nth xs k ≤ (xs.length : Int) - 1 ∧ hasB (xs.take k) (nth xs k) = false
instance (xs : List Int) (k : Nat) : Decidable (goodAt xs k) := by unfold goodAt; infer_instance
def isPermP (xs : List Int) : Prop := 1 ≤ xs.length ∧ xs.length ≤ 7 ∧ ∀ k, k < xs.length → goodAt xs k
/-- Is the list a permutation (not unfolded by the walk). -/
def isPermB (xs : List Int) : Bool := decide (1 ≤ xs.length) && decide (xs.length ≤ 7) && (List.range xs.length).all fun k => decide (goodAt xs k)
theorem isPermB_iff (xs : List Int) : isPermB xs = true ↔ isPermP xs := by
  simp [isPermB, isPermP, and_assoc]
theorem isPermB_true {xs : List Int} (h : isPermP xs) : isPermB xs = true := (isPermB_iff xs).2 h
theorem isPermB_false {xs : List Int} (h : ¬ isPermP xs) : isPermB xs = false := by
  cases hb : isPermB xs with
  | false => rfl
  | true => exact absurd ((isPermB_iff xs).1 hb) h
theorem hasB_nil (x : Int) : hasB [] x = false := by simp [hasB]
theorem hasB_hit {xs : List Int} {k : Nat} (hk : k < xs.length) : hasB xs (nth xs k) = true := by
  rw [nth_get hk]; simp [hasB]
theorem hasB_all {xs : List Int} {x : Int} (h : ∀ j, j < xs.length → nth xs j ≠ x) : hasB xs x = false := by
  simp only [hasB, decide_eq_false_iff_not]
  intro hm
  obtain ⟨j, hj, e⟩ := List.mem_iff_getElem.1 hm
  exact h j hj (by rw [nth_get hj]; exact e)

theorem l1In_any (a lo hi : Int) (w : World) :
    Calls Try.prog 88 #[.int .i64 a, .int .i64 lo, .int .i64 hi] w fun e w' => e = .returned (.bool (decide (lo ≤ a) && decide (a ≤ hi))) ∧ w = w' := by
  by_cases h1 : lo ≤ a
  · by_cases h2 : a ≤ hi
    · go_enter Try.func88, Try.ntmps88
      go_wp2
      go_ret
      exact ⟨ret_bool (by simp [h1, h2]), rfl⟩
    · go_enter Try.func88, Try.ntmps88
      go_wp2
      go_ret
      exact ⟨ret_bool (by simp [h2]), rfl⟩
  · have h1' : a < lo := by omega
    go_enter Try.func88, Try.ntmps88
    go_wp2
    go_ret
    exact ⟨ret_bool (by simp; intro; omega), rfl⟩
theorem l1In_yes' {a lo hi : Int} (h : lo ≤ a) (h' : a ≤ hi) (w : World) :
    Calls Try.prog 88 #[.int .i64 a, .int .i64 lo, .int .i64 hi] w fun e w' => e = .returned (.bool true) ∧ w = w' := by
  have := l1In_any a lo hi w
  simpa [h, h'] using this
theorem l1In_no' {a lo hi : Int} (h : a < lo ∨ hi < a) (w : World) :
    Calls Try.prog 88 #[.int .i64 a, .int .i64 lo, .int .i64 hi] w fun e w' => e = .returned (.bool false) ∧ w = w' := by
  have e : (decide (lo ≤ a) && decide (a ≤ hi)) = false := by simp; omega
  have := l1In_any a lo hi w
  rwa [e] at this
theorem l1In_yes {a lo hi : Int} (h : lo ≤ a) (h' : a ≤ hi) (w : World) :
    Calls Try.prog 88 #[.int .i64 a, .int .i64 lo, .int .i64 hi] w fun e w' => e = .returned (.bool true) ∧ Drawn w w' :=
  (l1In_yes' h h' w).mono fun _ _ ⟨he, hw⟩ => ⟨he, hw ▸ Drawn.refl _⟩
theorem l1In_no {a lo hi : Int} (h : a < lo ∨ hi < a) (w : World) :
    Calls Try.prog 88 #[.int .i64 a, .int .i64 lo, .int .i64 hi] w fun e w' => e = .returned (.bool false) ∧ Drawn w w' :=
  (l1In_no' h w).mono fun _ _ ⟨he, hw⟩ => ⟨he, hw ▸ Drawn.refl _⟩

set_option maxHeartbeats 400000 in
theorem l1Has_any (A : Option Addr) (n c : Nat) (xs : List Int) (x : Int) (w : World) (hs : SI w A n xs) (hn : n ≤ 1099511627776) :
    Calls Try.prog 132 #[.slice A n c, .int .i64 x] w fun e w' => e = .returned (.bool (hasB xs x)) ∧ Drawn w w' := by
  have hl := hs.1
  go_enter Try.func132, Try.ntmps132
  go_wp2
  go_loopw [5] (fun i wr => ∃ k : Nat, k ≤ n ∧ i = .int .i64 k ∧ Drawn w wr ∧ ∀ j, j < k → nth xs j ≠ x)
    (fun i _ => n - (intOf i).toNat)
  case atStart => exact ⟨0, Nat.zero_le _, rfl, Drawn.refl _, fun j hj => absurd hj (by omega)⟩
  case round =>
    obtain ⟨k, hk, rfl, hD, hall⟩ := hrel
    have HA := Lib.hid hall
    have hs := hD.si hs
    have HD := Lib.hid hD
    clear hall hD
    by_cases hlt : k < n
    · obtain ⟨b, o, rfl, hb, hc⟩ := hs.at_ (by omega)
      have hc1 := hc k hlt
      have HL := Lib.hid hl
      clear hc hs hl
      by_cases heq : nth xs k = x
      · have HE := Lib.hid heq
        rw [heq] at hc1
        clear heq
        go_wp2
        go_ret
        refine ⟨ret_bool ?_, HD.out⟩
        rw [← HE.out]
        exact (hasB_hit (by have := HL.out; omega)).symm
      · have HE := Lib.hid heq
        obtain ⟨y, hy⟩ : ∃ y, y = nth xs k := ⟨_, rfl⟩
        rw [← hy] at hc1 heq
        clear hy
        have hb : (y == x) = false := by simpa using heq
        clear heq
        go_wp2
        go_roundw
        case rel => exact ⟨k + 1, by omega, by go_num, HD.out, fun j hj => by
          rcases Nat.lt_or_ge j k with h | h
          · exact HA.out j h
          · obtain rfl : j = k := by omega
            exact HE.out⟩
        case measure => simp [intOf]; omega
    · have hkn : k = n := by omega
      subst hkn
      go_wp2
      go_ret
      refine ⟨ret_bool ?_, HD.out⟩
      exact (hasB_all (by rw [hl]; exact HA.out)).symm

set_option maxHeartbeats 800000 in
theorem specIsPerm_any (A : Option Addr) (n c : Nat) (xs : List Int) (w : World) (hs : SI w A n xs) (hnc : n ≤ c) (hn : n ≤ 1099511627776) :
    Calls Try.prog 95 #[.slice A n c] w fun e w' => e = .returned (.bool (isPermB xs)) ∧ Drawn w w' := by
  have hl := hs.1
  by_cases hsz : 1 ≤ n ∧ n ≤ 7
  · obtain ⟨hs1, hs7⟩ := hsz
    go_enter Try.func95, Try.ntmps95
    go_wp2_with (go_at_call 88; refine (l1In_yes (by omega) (by omega) _).mono ?_; rintro e w1 ⟨rfl, hD1⟩)
    go_loopw [3] (fun i wr => ∃ k : Nat, k ≤ n ∧ i = .int .i64 k ∧ Drawn w wr ∧ ∀ j, j < k → goodAt xs j)
      (fun i _ => n - (intOf i).toNat)
    case atStart => exact ⟨0, Nat.zero_le _, rfl, hD1, fun j hj => absurd hj (by omega)⟩
    case round =>
      obtain ⟨k, hk, rfl, hD, hall⟩ := hrel
      have HA := Lib.hid hall
      have HL := Lib.hid hl
      have HD := Lib.hid hD
      have hs := hD.si hs
      clear hall hl hD hD1
      by_cases hlt : k < n
      · obtain ⟨b, o, e1, hb, hc⟩ := hs.at_ (by omega)
        have hst := hs.take (k := k) (by omega)
        subst e1
        have hc1 := hc k hlt
        have HST := Lib.hid hst
        clear hc hs hst
        obtain ⟨x, hx⟩ : ∃ x, x = nth xs k := ⟨_, rfl⟩
        obtain ⟨ys, hy⟩ : ∃ ys, ys = xs.take k := ⟨_, rfl⟩
        rw [← hx] at hc1
        rw [← hy] at HST
        have HX := Lib.hid hx
        have HY := Lib.hid hy
        clear hx hy
        have hlI : (k : Int) < (n : Int) := by omega
        have hwr : IntKind.i64.wrap ((n : Int) - 1) = (n : Int) - 1 := IntWalk.i64_in _ (by omega)
        by_cases hr : 0 ≤ x ∧ x ≤ (n : Int) - 1
        · obtain ⟨hx0, hx1⟩ := hr
          go_wp2_with fail
          go_quiet ((first | (go_at_call 88; go_must (refine Calls.quiet_of (l1In_yes hx0 hx1 _))) | (go_at_call 132; exact Calls.quiet_of (l1Has_any _ _ _ ys _ _ HST.out (by omega)))))
          go_wp2
          · have hh : hasB ys x = true := by assumption
            go_ret
            refine ⟨ret_bool ?_, HD.out.drewN _⟩
            refine (isPermB_false ?_).symm
            intro hp
            obtain ⟨_, _, g3⟩ := (hp.2.2 k (by have := HL.out; omega))
            rw [← HX.out, ← HY.out, hh] at g3
            cases g3
          · have hh' : hasB ys x = false := by assumption
            have HG : goodAt xs k := by
              have e1 := HX.out
              have e2 := HY.out
              have e3 := HL.out
              refine ⟨by omega, by omega, by rw [← e1, ← e2]; exact hh'⟩
            go_roundw
            case rel => exact ⟨k + 1, by omega, by go_num, HD.out.drewN _, fun j hj => by
              rcases Nat.lt_or_ge j k with h | h
              · exact HA.out j h
              · obtain rfl : j = k := by omega
                exact HG⟩
            case measure => simp [intOf]; omega
        · go_wp2_with fail
          go_quiet ((first | (go_at_call 88; exact Calls.quiet_of (l1In_no (by omega) _))))
          go_wp2
          go_ret
          refine ⟨ret_bool ?_, HD.out.drewN _⟩
          refine (isPermB_false ?_).symm
          intro hp
          have := (hp.2.2 k (by have := HL.out; omega))
          obtain ⟨g1, g2, _⟩ := this
          rw [← HX.out] at g1 g2
          rw [HL.out] at g2
          exact hr ⟨g1, g2⟩
      · have hkn : k = n := by omega
        subst hkn
        go_wp2
        go_ret
        refine ⟨ret_bool ?_, HD.out⟩
        exact (isPermB_true ⟨by have := HL.out; omega, by have := HL.out; omega, by rw [HL.out]; exact HA.out⟩).symm
  · go_enter Try.func95, Try.ntmps95
    go_wp2_with (go_at_call 88; refine (l1In_no (by omega) _).mono ?_; rintro e w1 ⟨rfl, hD1⟩)
    go_ret
    refine ⟨ret_bool ?_, hD1⟩
    exact (isPermB_false (fun hp => hsz ⟨by have := hp.1; omega, by have := hp.2.1; omega⟩)).symm
theorem specIsPerm_is {A : Option Addr} {n : Nat} (c : Nat) {xs : List Int} {w : World} {b : Bool} (hb : isPermB xs = b) (hs : SI w A n xs) (hnc : n ≤ c) (hn : n ≤ 1099511627776) :
    Calls Try.prog 95 #[.slice A n c] w fun e w' => e = .returned (.bool b) ∧ Drawn w w' := by
  subst hb; exact specIsPerm_any A n c xs w hs hnc hn
theorem isPermB_P {xs : List Int} (h : isPermB xs = true) : isPermP xs := (isPermB_iff xs).1 h
theorem isPermP.range {xs : List Int} (h : isPermP xs) (k : Nat) (hk : k < xs.length) : 0 ≤ nth xs k ∧ nth xs k < (xs.length : Int) := by
  obtain ⟨h1, h2, _⟩ := h.2.2 k hk
  omega
end Go.Proofs.Ytjpoliibljjhnaa

/-
  Contracts of the specification's functions that build lists: identity, longest. Conditions: lengths below 2^40.
-/


namespace Go.Proofs.Ytjpoliibljjhnaa
open Go.RowKit

def idL (n : Nat) : List Int := (List.range n).map fun (j : Nat) => (j : Int)
theorem idL_len (n : Nat) : (idL n).length = n := by simp [idL]
theorem idL_succ (n : Nat) : idL (n + 1) = idL n ++ [(n : Int)] := by simp [idL, List.range_succ]
/-- n-1, n-2, .., k numbers. -/
def downL (n k : Nat) : List Int := (List.range k).map fun (j : Nat) => (n : Int) - 1 - (j : Int)
theorem downL_len (n k : Nat) : (downL n k).length = k := by simp [downL]
theorem downL_succ (n k : Nat) : downL n (k + 1) = downL n k ++ [(n : Int) - 1 - (k : Int)] := by simp [downL, List.range_succ]

set_option maxHeartbeats 400000 in
theorem specIdentity_in (n : Nat) (w : World) (h1 : 1 ≤ n) (h7 : n ≤ 7) :
    Calls Try.prog 164 #[.int .i64 n] w fun e w' => Fresh w w' e (idL n) := by
  go_enter Try.func164, Try.ntmps164
  go_wp2_with (go_at_call 88; refine (l1In_yes' (by omega) (by omega) _).mono ?_; rintro e w' ⟨rfl, rfl⟩)
  go_loopw [3, 4] (fun v i wr => ∃ (k : Nat) (A : Option Addr) (c : Nat), k ≤ n ∧ i = .int .i64 k ∧ v = .slice A k c ∧ Own wr w.heap.size wr.heap.size A k c (idL k) ∧ Below w.heap.size w wr)
    (fun _ i _ => n - (intOf i).toNat)
  case atStart => exact ⟨0, _, _, Nat.zero_le _, rfl, rfl, (Own.empty w).wide (Nat.le_refl _) (by simp), Below.alloc_self _ _⟩
  case round =>
    obtain ⟨k, A, c, hk, rfl, rfl, hown, hbel⟩ := hrel
    have HO := Lib.hid hown
    have HB := Lib.hid hbel
    clear hown hbel
    by_cases hlt : k < n
    · go_wp2_with (at_builtin; refine wpList_append1 rfl (.tmp 14) (.tmp 16) rfl w.heap.size A k c (idL k) (k : Int) rfl rfl HO.out HB.out.size (by omega) ?_; intro A' c' w1 ho1 _ hb1)
      go_roundw
      case rel => exact ⟨k + 1, _, _, by omega, by go_num, rfl, by rw [idL_succ]; exact ho1, HB.out.trans hb1⟩
      case measure => simp [intOf]; omega
    · have hkn : k = n := by omega
      subst hkn
      go_wp2
      go_ret
      exact ⟨A, _, c, rfl, HO.out, HB.out⟩
theorem specIdentity_out (a : Int) (w : World) (h : a < 1 ∨ 7 < a) :
    Calls Try.prog 164 #[.int .i64 a] w fun e w' => Fresh w w' e [] := by
  go_enter Try.func164, Try.ntmps164
  go_wp2_with (go_at_call 88; refine (l1In_no' (by omega) _).mono ?_; rintro e w' ⟨rfl, rfl⟩)
  go_ret
  exact ⟨none, 0, 0, rfl, Own.nil _ _ _, Below.refl _ _⟩
/-- What IdentityPerm answers. -/
def idPerm (a : Int) : List Int := if 1 ≤ a ∧ a ≤ 7 then idL a.toNat else []
theorem idPerm_small (a : Int) : (idPerm a).length ≤ 1099511627775 := by
  unfold idPerm; split
  · rw [idL_len]; omega
  · simp
theorem specIdentity_any (a : Int) (w : World) : Calls Try.prog 164 #[.int .i64 a] w fun e w' => Fresh w w' e (idPerm a) := by
  unfold idPerm
  split
  · rename_i h
    have e : a = ((a.toNat : Nat) : Int) := by omega
    have := specIdentity_in a.toNat w (by omega) (by omega)
    rwa [← e] at this
  · exact specIdentity_out a w (by omega)

def longPerm (a : Int) : List Int := if 1 ≤ a ∧ a ≤ 7 then downL a.toNat a.toNat else []
theorem longPerm_small (a : Int) : (longPerm a).length ≤ 1099511627775 := by
  unfold longPerm; split
  · rw [downL_len]; omega
  · simp
end Go.Proofs.Ytjpoliibljjhnaa

/-
  Contracts of the specification's functions: products, inverses. Conditions: lengths below 2^40.
-/

namespace Go.Proofs.Ytjpoliibljjhnaa
open Go.RowKit

/-- The first k numbers of a product. -/
def compL (u v : List Int) (k : Nat) : List Int := (List.range k).map fun i => nth u (nth v i).toNat
theorem compL_len (u v : List Int) (k : Nat) : (compL u v k).length = k := by simp [compL]
theorem compL_succ (u v : List Int) (k : Nat) : compL u v (k + 1) = compL u v k ++ [nth u (nth v k).toNat] := by simp [compL, List.range_succ]

/-- What ComposePerms answers. -/
def compPerm (us vs : List Int) : List Int := if isPermB us = true ∧ isPermB vs = true ∧ us.length = vs.length then compL us vs vs.length else []

theorem Fresh.nil_ret {w w' : World} (h : Below w.heap.size w w') : Fresh w w' (.returned (.slice none 0 0)) [] := ⟨none, 0, 0, rfl, Own.nil _ _ _, h⟩
theorem Fresh.after {w w1 w2 : World} {e : Ending} {ys : List Int} (hb : Below w.heap.size w w1) (h : Fresh w1 w2 e ys) : Fresh w w2 e ys := by
  obtain ⟨A, n, c, he, ho, hb2⟩ := h
  exact ⟨A, n, c, he, ho.wide hb.size (Nat.le_refl _), hb.trans (hb2.mono hb.size)⟩

theorem compPerm_no {us vs : List Int} (h : isPermB us = false ∨ isPermB vs = false ∨ us.length ≠ vs.length) : compPerm us vs = [] := by
  unfold compPerm
  rw [if_neg]
  rintro ⟨h1, h2, h3⟩
  rcases h with h | h | h
  · rw [h1] at h; cases h
  · rw [h2] at h; cases h
  · exact h h3
theorem compPerm_yes {us vs : List Int} (h1 : isPermB us = true) (h2 : isPermB vs = true) (h3 : us.length = vs.length) : compPerm us vs = compL us vs vs.length := by
  unfold compPerm
  rw [if_pos ⟨h1, h2, h3⟩]
theorem isPermB_small {xs : List Int} (h : isPermB xs = true) : xs.length ≤ 1099511627775 := by have := (isPermB_P h).2.1; omega
theorem compPerm_small (us vs : List Int) : (compPerm us vs).length ≤ 1099511627775 := by
  unfold compPerm
  split
  · rename_i h
    rw [compL_len]; exact isPermB_small h.2.1
  · simp
/-- The inverse, k places filled. -/
def invM (xs : List Int) (n k : Nat) : List Int := (List.range k).foldl (fun acc i => acc.set (nth xs i).toNat (i : Int)) (List.replicate n 0)
theorem invM_succ (xs : List Int) (n k : Nat) : invM xs n (k + 1) = (invM xs n k).set (nth xs k).toNat (k : Int) := by simp [invM, List.range_succ]
theorem invM_len (xs : List Int) (n k : Nat) : (invM xs n k).length = n := by
  induction k with
  | zero => simp [invM]
  | succ k ih => rw [invM_succ]; simpa using ih

/-- What InversePerm answers. -/
def invPerm (xs : List Int) : List Int := if isPermB xs = true then invM xs xs.length xs.length else []
theorem invPerm_no {xs : List Int} (h : isPermB xs = false) : invPerm xs = [] := by unfold invPerm; rw [if_neg (by rw [h]; decide)]
theorem invPerm_yes {xs : List Int} (h : isPermB xs = true) : invPerm xs = invM xs xs.length xs.length := by unfold invPerm; rw [if_pos h]
theorem invPerm_small (xs : List Int) : (invPerm xs).length ≤ 1099511627775 := by
  unfold invPerm
  split
  · rename_i h
    rw [invM_len]; exact isPermB_small h
  · simp
end Go.Proofs.Ytjpoliibljjhnaa

/-
  Contracts of the specification's codes, lengths and descents. Conditions: lengths below 2^40.
-/

namespace Go.Proofs.Ytjpoliibljjhnaa
open Go.RowKit

/-- How many of the places behind i and before j have a smaller number. -/
def codeCnt (xs : List Int) (i : Nat) : Nat → Nat
  | 0 => 0
  | j + 1 => codeCnt xs i j + if i < j ∧ nth xs j < nth xs i then 1 else 0
theorem codeCnt_le (xs : List Int) (i j : Nat) : codeCnt xs i j ≤ j := by
  induction j with
  | zero => exact Nat.le_refl _
  | succ j ih => unfold codeCnt; split <;> omega
theorem codeCnt_low (xs : List Int) (i j : Nat) (h : j ≤ i + 1) : codeCnt xs i j = 0 := by
  induction j with
  | zero => rfl
  | succ j ih => unfold codeCnt; rw [ih (by omega), if_neg (by omega)]
theorem codeCnt_hit {xs : List Int} {i j : Nat} (h : i < j) (hx : nth xs j < nth xs i) : codeCnt xs i (j + 1) = codeCnt xs i j + 1 := by
  show codeCnt xs i j + (if i < j ∧ nth xs j < nth xs i then 1 else 0) = _
  rw [if_pos ⟨h, hx⟩]
theorem codeCnt_miss {xs : List Int} {i j : Nat} (hx : ¬ nth xs j < nth xs i) : codeCnt xs i (j + 1) = codeCnt xs i j := by
  show codeCnt xs i j + (if i < j ∧ nth xs j < nth xs i then 1 else 0) = _
  rw [if_neg (fun h => hx h.2)]; rfl
/-- The code, k places filled. -/
def codeL (xs : List Int) (n k : Nat) : List Int := (List.range n).map fun i => if i < k then (codeCnt xs i n : Int) else 0
theorem codeL_len (xs : List Int) (n k : Nat) : (codeL xs n k).length = n := by simp [codeL]
theorem codeL_nth (xs : List Int) (n k i : Nat) (h : i < n) : nth (codeL xs n k) i = if i < k then (codeCnt xs i n : Int) else 0 := by
  rw [nth_get (by rw [codeL_len]; exact h)]; simp [codeL]
theorem codeL_zero (xs : List Int) (n : Nat) : codeL xs n 0 = List.replicate n 0 := by
  apply List.ext_getElem (by simp [codeL])
  intro j h1 h2; simp [codeL]
theorem codeL_set0 (xs : List Int) (n k : Nat) (_h : k < n) : (codeL xs n k).set k 0 = codeL xs n k := by
  apply List.ext_getElem (by simp)
  intro j h1 h2
  rw [List.getElem_set]
  split
  · rename_i e; subst e; simp [codeL]
  · rfl
theorem codeL_set (xs : List Int) (n k : Nat) (_h : k < n) : (codeL xs n k).set k (codeCnt xs k n : Int) = codeL xs n (k + 1) := by
  apply List.ext_getElem (by simp [codeL])
  intro j h1 h2
  rw [List.getElem_set]
  simp only [codeL, List.getElem_map, List.getElem_range]
  by_cases e : k = j
  · subst e; simp
  · rw [if_neg e]
    by_cases h3 : j < k
    · rw [if_pos h3, if_pos (by omega)]
    · rw [if_neg h3, if_neg (by omega)]

set_option maxHeartbeats 1000000 in
theorem l1Code_any (A : Option Addr) (n c : Nat) (xs : List Int) (w : World) (hs : SI w A n xs) (hn : n ≤ 1099511627776) :
    Calls Try.prog 163 #[.slice A n c] w fun e w' => Fresh w w' e (codeL xs n n) := by
  go_enter Try.func163, Try.ntmps163
  go_wp2_with (at_make; refine wpList_make_zero rfl (.tmp 7) (.tmp 7) rfl n rfl rfl hn ?_; intro w0 ho0 hb0)
  go_loopw [4] (fun i wr => ∃ k : Nat, k ≤ n ∧ i = .int .i64 k ∧ Own wr w.heap.size wr.heap.size (some ⟨w.heap.size, 0, none⟩) n n (codeL xs n k) ∧ Below w.heap.size w wr)
    (fun i _ => n - (intOf i).toNat)
  case atStart => exact ⟨0, Nat.zero_le _, rfl, by rw [codeL_zero]; exact ho0, hb0⟩
  case round =>
    obtain ⟨k, hk, rfl, hown, hbel⟩ := hrel
    obtain ⟨wo, hwo⟩ : ∃ wo : World, wo = wr := ⟨_, rfl⟩
    rw [← hwo] at hown hbel ⊢
    have HO := Lib.hid hown
    have HB := Lib.hid hbel
    clear ho0 hb0 hown hbel hwo wr
    by_cases hlt : k < n
    · go_wp2
      go_loopw [5] (fun jv wr => ∃ j : Nat, k + 1 ≤ j ∧ j ≤ n ∧ jv = .int .i64 j ∧ Own wr w.heap.size wr.heap.size (some ⟨w.heap.size, 0, none⟩) n n ((codeL xs n k).set k (codeCnt xs k j : Int)) ∧ Below w.heap.size w wr)
        (fun jv _ => n - (intOf jv).toNat)
      case atStart =>
        refine ⟨k + 1, Nat.le_refl _, by omega, by go_num, ?_, HB.out⟩
        rw [codeCnt_low xs k (k + 1) (Nat.le_refl _)]
        rw [show ((0 : Nat) : Int) = 0 from rfl, codeL_set0 xs n k hlt]
        exact HO.out
      case round =>
        obtain ⟨j, hj1, hj, rfl, hown, hbel⟩ := hrel
        have HO2 := Lib.hid hown
        have HB2 := Lib.hid hbel
        clear hown hbel
        by_cases hjlt : j < n
        · obtain ⟨b, o, e1, hb, hc⟩ := (hs.below HB2.out (Nat.le_refl _)).at_ (by omega)
          have hcj := hc j hjlt
          have hck := hc k hlt
          obtain ⟨x, hx⟩ : ∃ x, x = nth xs j := ⟨_, rfl⟩
          obtain ⟨y, hy⟩ : ∃ y, y = nth xs k := ⟨_, rfl⟩
          rw [← hx] at hcj
          rw [← hy] at hck
          have HX := Lib.hid hx
          have HY := Lib.hid hy
          subst e1
          clear hc hs hx hy
          have hlI : (j : Int) < (n : Int) := by omega
          have hlK : (k : Int) < (n : Int) := by omega
          have hcl : (codeCnt xs k j : Int) ≤ 1099511627776 := by have := codeCnt_le xs k j; omega
          obtain ⟨q, hq⟩ : ∃ q, q = codeCnt xs k j := ⟨_, rfl⟩
          rw [← hq] at hcl
          have HQ := Lib.hid hq
          clear hq
          have hown2 := HO2.out
          rw [← HQ.out] at hown2
          have hcO : wr.cell? ⟨w.heap.size, k, none⟩ = some (.int .i64 (q : Int)) := by
            rw [hown2.cellAt hlt, nth_get (by simp [codeL_len]; exact hlt)]; simp
          have hfO := hown2.frozenAt k
          have hst := hown2.set_ (k := k) ((q : Int) + 1)
          rw [List.set_set] at hst
          have HS1 := Lib.hid hst.1
          clear hst hown2
          by_cases hxy : x < y
          · go_wp2_with fail
            go_quiet (fail)
            go_wp2
            go_roundw
            case rel =>
              have e1 := HX.out
              have e2 := HY.out
              refine ⟨j + 1, by omega, by omega, by go_num, ?_, (by first | exact (HB2.out.drawnN _).setCell (Nat.le_refl _) _ | exact (HB2.out.setCell (Nat.le_refl _) _).drawnN _)⟩
              rw [codeCnt_hit (by omega) (by omega), ← HQ.out]
              rw [show (((q + 1 : Nat)) : Int) = (q : Int) + 1 from by omega]
              exact (HS1.out.drawn ⟨_, rfl⟩).wide (Nat.le_refl _) (by simp)
            case measure => simp [intOf]; omega
          · go_wp2_with fail
            go_quiet (fail)
            go_wp2
            go_roundw
            case rel =>
              have e1 := HX.out
              have e2 := HY.out
              refine ⟨j + 1, by omega, by omega, by go_num, ?_, HB2.out.drawnN _⟩
              rw [codeCnt_miss (by omega)]
              exact HO2.out.drawn ⟨_, rfl⟩
            case measure => simp [intOf]; omega
        · have hjn : j = n := by omega
          subst hjn
          go_wp2
          go_roundw
          case rel =>
            refine ⟨k + 1, by omega, by go_num, ?_, HB2.out⟩
            rw [← codeL_set xs _ k hlt]
            exact HO2.out
          case measure => simp [intOf]; omega
    · have hkn : k = n := by omega
      subst hkn
      go_wp2
      go_ret
      exact ⟨_, _, _, rfl, HO.out, HB.out⟩

/-- The sum of the first k numbers. -/
def sumN (xs : List Int) : Nat → Int
  | 0 => 0
  | k + 1 => sumN xs k + nth xs k
set_option maxHeartbeats 400000 in
theorem l1Sum_any (A : Option Addr) (n c : Nat) (xs : List Int) (w : World) (hs : SI w A n xs) (hn : n ≤ 1099511627776) (hb : ∀ k, k ≤ n → -1099511627776 ≤ sumN xs k ∧ sumN xs k ≤ 1099511627776) :
    Calls Try.prog 162 #[.slice A n c] w fun e w' => e = .returned (.int .i64 (sumN xs n)) ∧ Drawn w w' := by
  have HBd := Lib.hid hb
  clear hb
  go_enter Try.func162, Try.ntmps162
  go_wp2
  go_loopw [3, 4] (fun v i wr => ∃ k : Nat, k ≤ n ∧ i = .int .i64 k ∧ v = .int .i64 (sumN xs k) ∧ Drawn w wr)
    (fun _ i _ => n - (intOf i).toNat)
  case atStart => exact ⟨0, Nat.zero_le _, rfl, rfl, Drawn.refl _⟩
  case round =>
    obtain ⟨k, hk, rfl, rfl, hD⟩ := hrel
    have hs := hD.si hs
    have HD := Lib.hid hD
    clear hD
    by_cases hlt : k < n
    · obtain ⟨b, o, rfl, hb, hc⟩ := hs.at_ (by omega)
      have hc1 := hc k hlt
      obtain ⟨x, hx⟩ : ∃ x, x = nth xs k := ⟨_, rfl⟩
      obtain ⟨y, hy⟩ : ∃ y, y = sumN xs k := ⟨_, rfl⟩
      have h1 := HBd.out k (by omega)
      have h2 := HBd.out (k + 1) (by omega)
      have e : sumN xs (k + 1) = sumN xs k + nth xs k := rfl
      rw [← hx, ← hy] at e
      rw [e] at h2
      rw [← hy] at h1 ⊢
      rw [← hx] at hc1
      obtain ⟨h21, h22⟩ := h2
      have HE := Lib.hid e
      clear hc hs hx hy e
      go_wp2
      go_roundw
      case rel => exact ⟨k + 1, by omega, by go_num, by rw [HE.out], HD.out⟩
      case measure => simp [intOf]; omega
    · have hkn : k = n := by omega
      subst hkn
      go_wp2
      go_ret
      exact ⟨rfl, HD.out⟩

theorem sumN_code (xs : List Int) (n : Nat) (h7 : n ≤ 7) : ∀ k, k ≤ n → 0 ≤ sumN (codeL xs n n) k ∧ sumN (codeL xs n n) k ≤ 7 * (k : Int) := by
  intro k
  induction k with
  | zero => intro _; exact ⟨Int.le_refl _, by simp [sumN]⟩
  | succ k ih =>
    intro hk
    obtain ⟨h1, h2⟩ := ih (by omega)
    have e : sumN (codeL xs n n) (k + 1) = sumN (codeL xs n n) k + nth (codeL xs n n) k := rfl
    rw [e, codeL_nth _ _ _ _ (by omega), if_pos (by omega)]
    have := codeCnt_le xs k n
    omega
/-- The length of a permutation, by its code. -/
def lenL (xs : List Int) : Int := sumN (codeL xs xs.length xs.length) xs.length
theorem lenL_bounds {xs : List Int} (h7 : xs.length ≤ 7) : 0 ≤ lenL xs ∧ lenL xs ≤ 49 := by
  have := sumN_code xs xs.length h7 xs.length (Nat.le_refl _)
  unfold lenL
  omega
set_option maxHeartbeats 400000 in
theorem l1Length_any (A : Option Addr) (n c : Nat) (xs : List Int) (w : World) (hs : SI w A n xs) (h7 : n ≤ 7) :
    Calls Try.prog 72 #[.slice A n c] w fun e w' => e = .returned (.int .i64 (lenL xs)) ∧ Below w.heap.size w w' := by
  have hl := hs.1
  go_enter Try.func72, Try.ntmps72
  go_wp2_with fail
  refine (l1Code_any _ _ _ xs _ hs (by omega)).mono ?_
  rintro e w1 ⟨A1, n1, c1, rfl, ho1, hb1⟩
  have e1 : n1 = n := by have := ho1.len; rw [codeL_len] at this; omega
  subst e1
  have HB := Lib.hid hb1
  clear hb1
  go_wp2_with fail
  refine (l1Sum_any _ _ _ _ _ ho1.si (by omega) (fun k hk => by have := sumN_code xs n1 h7 k hk; omega)).mono ?_
  rintro e w2 ⟨rfl, hd2⟩
  go_wp2
  go_ret
  refine ⟨ret_int ?_, HB.out.trans (hd2.below _)⟩
  unfold lenL
  rw [hl]
/-- What LengthOf answers. -/
def lenPerm (xs : List Int) : Int := if isPermB xs = true then lenL xs else -1
theorem lenPerm_no {xs : List Int} (h : isPermB xs = false) : lenPerm xs = -1 := by unfold lenPerm; rw [if_neg (by rw [h]; decide)]
theorem lenPerm_yes {xs : List Int} (h : isPermB xs = true) : lenPerm xs = lenL xs := by unfold lenPerm; rw [if_pos h]
/-- What CodeOf answers. -/
def codePerm (xs : List Int) : List Int := if isPermB xs = true then codeL xs xs.length xs.length else []
theorem codePerm_no {xs : List Int} (h : isPermB xs = false) : codePerm xs = [] := by unfold codePerm; rw [if_neg (by rw [h]; decide)]
theorem codePerm_yes {xs : List Int} (h : isPermB xs = true) : codePerm xs = codeL xs xs.length xs.length := by unfold codePerm; rw [if_pos h]
theorem codePerm_small (xs : List Int) : (codePerm xs).length ≤ 1099511627775 := by
  unfold codePerm
  split
  · rename_i h
    rw [codeL_len]; exact isPermB_small h
  · simp
/-- The descents among the first k places. -/
def descL (xs : List Int) : Nat → List Int
  | 0 => []
  | k + 1 => if nth xs (k + 1) < nth xs k then descL xs k ++ [(k : Int)] else descL xs k
theorem descL_len (xs : List Int) (k : Nat) : (descL xs k).length ≤ k := by
  induction k with
  | zero => exact Nat.le_refl _
  | succ k ih =>
    unfold descL
    split
    · simp; omega
    · omega
theorem descL_hit {xs : List Int} {k : Nat} (h : nth xs (k + 1) < nth xs k) : descL xs (k + 1) = descL xs k ++ [(k : Int)] := by
  show (if nth xs (k + 1) < nth xs k then descL xs k ++ [(k : Int)] else descL xs k) = _
  rw [if_pos h]
theorem descL_miss {xs : List Int} {k : Nat} (h : ¬ nth xs (k + 1) < nth xs k) : descL xs (k + 1) = descL xs k := by
  show (if nth xs (k + 1) < nth xs k then descL xs k ++ [(k : Int)] else descL xs k) = _
  rw [if_neg h]
def descPerm (xs : List Int) : List Int := if isPermB xs = true then descL xs (xs.length - 1) else []
theorem descPerm_no {xs : List Int} (h : isPermB xs = false) : descPerm xs = [] := by unfold descPerm; rw [if_neg (by rw [h]; decide)]
theorem descPerm_yes {xs : List Int} (h : isPermB xs = true) : descPerm xs = descL xs (xs.length - 1) := by unfold descPerm; rw [if_pos h]
theorem descPerm_small (xs : List Int) : (descPerm xs).length ≤ 1099511627775 := by
  unfold descPerm
  split
  · rename_i h
    have := descL_len xs (xs.length - 1)
    have := isPermB_small h
    omega
  · simp
set_option maxHeartbeats 800000 in
theorem specDescents_any (A : Option Addr) (n c : Nat) (xs : List Int) (w : World) (hs : SI w A n xs) (hnc : n ≤ c) (hn : n ≤ 1099511627776) :
    Calls Try.prog 103 #[.slice A n c] w fun e w' => Fresh w w' e (descPerm xs) := by
  have hl := hs.1
  cases hu : isPermB xs with
  | false =>
    have HE := Lib.hid (descPerm_no hu)
    have HU := Lib.hid hu
    clear hu
    go_enter Try.func103, Try.ntmps103
    go_wp2_with fail
    refine (specIsPerm_is c HU.out hs hnc hn).mono ?_
    rintro e w1 ⟨rfl, hd1⟩
    go_wp2
    go_ret
    rw [HE.out]
    exact Fresh.nil_ret (hd1.below _)
  | true =>
    have HE := Lib.hid (descPerm_yes hu)
    have HU := Lib.hid hu
    have hpos : 1 ≤ n := by have := (isPermB_P hu).1; omega
    have HL := Lib.hid hl
    clear hu hl
    go_enter Try.func103, Try.ntmps103
    go_wp2_with fail
    refine (specIsPerm_is c HU.out hs hnc hn).mono ?_
    rintro e w1 ⟨rfl, hd1⟩
    have hs1 := hd1.si hs
    have HD := Lib.hid hd1
    clear hs hd1
    go_wp2
    go_loopw [3, 4] (fun v i wr => ∃ (k m : Nat) (A : Option Addr) (c : Nat), k + 1 ≤ n ∧ i = .int .i64 k ∧ v = .slice A m c ∧ Own wr w1.heap.size wr.heap.size A m c (descL xs k) ∧ Below w1.heap.size w1 wr)
      (fun _ i _ => n - (intOf i).toNat)
    case atStart => exact ⟨0, 0, _, _, by omega, rfl, rfl, (Own.empty w1).wide (Nat.le_refl _) (by simp), Below.alloc_self _ _⟩
    case round =>
      obtain ⟨k, m, A0, c0, hk, rfl, rfl, hown, hbel⟩ := hrel
      have HO := Lib.hid hown
      have HB := Lib.hid hbel
      have hm : m ≤ 1099511627775 := by
        have h1 := HO.out.len
        have h2 := descL_len xs k
        have := (isPermB_P HU.out).2.1
        have := HL.out
        omega
      by_cases hlt : k + 1 < n
      · obtain ⟨b, o, e1, hb, hc⟩ := (hs1.below hbel (Nat.le_refl _)).at_ (by omega)
        have hck := hc k (by omega)
        have hck1 := hc (k + 1) hlt
        obtain ⟨x, hx⟩ : ∃ x, x = nth xs k := ⟨_, rfl⟩
        obtain ⟨y, hy⟩ : ∃ y, y = nth xs (k + 1) := ⟨_, rfl⟩
        rw [← hx] at hck
        rw [← hy] at hck1
        have HX := Lib.hid hx
        have HY := Lib.hid hy
        subst e1
        clear hc hx hy hs1 hown hbel
        have hlI : (k : Int) < (n : Int) := by omega
        have hlI1 : (k : Int) + 1 < (n : Int) := by omega
        have hw1 : IntKind.i64.wrap ((k : Int) + 1) = (k : Int) + 1 := IntWalk.i64_in _ (by omega)
        have hn1 : ((k : Int) + 1).toNat = k + 1 := by omega
        have h01 : (0 : Int) ≤ (k : Int) + 1 := by omega
        by_cases hxy : y < x
        · go_wp2_with fail
          go_quiet (fail)
          clear hw1 hn1 h01
          go_wp2_with (at_builtin; refine wpList_append1 rfl (.tmp 26) (.tmp 28) rfl w1.heap.size A0 m c0 (descL xs k) (k : Int) rfl rfl (HO.out.drawn ⟨_, rfl⟩) HB.out.size (by omega) ?_; intro A' c' w3 ho3 _ hb3)
          go_roundw
          case rel =>
            have e1 := HX.out
            have e2 := HY.out
            exact ⟨k + 1, _, _, _, by omega, by go_num, rfl, by rw [descL_hit (by omega)]; exact ho3, (HB.out.drawnN _).trans hb3⟩
          case measure => simp [intOf]; omega
        · go_wp2_with fail
          go_quiet (fail)
          clear hw1 hn1 h01
          go_wp2
          go_roundw
          case rel =>
            have e1 := HX.out
            have e2 := HY.out
            exact ⟨k + 1, _, _, _, by omega, by go_num, rfl, by rw [descL_miss (by omega)]; exact HO.out.drawn ⟨_, rfl⟩, HB.out.drawnN _⟩
          case measure => simp [intOf]; omega
      · have hkn : n = k + 1 := by omega
        subst hkn
        clear hown hbel hs1
        go_wp2
        go_ret
        rw [HE.out, HL.out, Nat.add_sub_cancel]
        exact Fresh.after (HD.out.below _) ⟨A0, _, c0, rfl, HO.out, HB.out⟩
end Go.Proofs.Ytjpoliibljjhnaa

/-
  Terms and polynomials as lists: keys, their order, when a list of terms is a polynomial. Plain lemmas. No conditions.
-/

namespace Go.Proofs.Ytjpoliibljjhnaa
open Go.RowKit

/-- A term: its exponents and its number. -/
abbrev Tm := List Int × Int
def tm (ts : List Tm) (k : Nat) : Tm := ts.getD k ([], 0)
theorem tm_get {ts : List Tm} {k : Nat} (h : k < ts.length) : tm ts k = ts[k] := by simp [tm, List.getD, h]
theorem tm_get? {ts : List Tm} {k : Nat} (h : k < ts.length) : ts[k]? = some (tm ts k) := by simp [tm, List.getD, h]
theorem take_tm {ts : List Tm} {k : Nat} (h : k < ts.length) : ts.take (k + 1) = ts.take k ++ [tm ts k] := by
  rw [List.take_succ_eq_append_getElem h, tm_get h]
theorem tm_app_lt {ts us : List Tm} {k : Nat} (h : k < ts.length) : tm (ts ++ us) k = tm ts k := by simp [tm, List.getD, List.getElem?_append, h]
theorem tm_app_at {ts : List Tm} {t : Tm} : tm (ts ++ [t]) ts.length = t := by simp [tm, List.getD]
theorem tm_ext {ts us : List Tm} (hl : ts.length = us.length) (h : ∀ j, j < ts.length → tm ts j = tm us j) : ts = us := by
  apply List.ext_getElem hl
  intro j h1 h2
  have := h j h1
  rwa [tm_get h1, tm_get h2] at this

/-- The key of exponents: seven bits for each, the last in front. -/
def key7 (e : List Int) : Int := e.foldr (fun x k => k * 128 + x) 0
theorem key7_drop {e : List Int} {i : Nat} (h : i < e.length) : key7 (e.drop i) = key7 (e.drop (i + 1)) * 128 + nth e i := by
  rw [List.drop_eq_getElem_cons h, nth_get h]; rfl
/-- All exponents are from 0 to 24. -/
def smallE (e : List Int) : Bool := e.all fun x => decide (0 ≤ x ∧ x ≤ 24)
theorem smallE_nth {e : List Int} (h : smallE e = true) {k : Nat} (hk : k < e.length) : 0 ≤ nth e k ∧ nth e k ≤ 24 := by
  rw [nth_get hk]
  have := List.all_eq_true.1 h _ (List.getElem_mem hk)
  simpa using this
theorem smallE_all {e : List Int} (h : ∀ k, k < e.length → 0 ≤ nth e k ∧ nth e k ≤ 24) : smallE e = true := by
  apply List.all_eq_true.2
  intro x hx
  obtain ⟨k, hk, rfl⟩ := List.getElem_of_mem hx
  have := h k hk
  rw [nth_get hk] at this
  simpa using this
theorem smallE_no {e : List Int} {k : Nat} (hk : k < e.length) (h : nth e k < 0 ∨ 24 < nth e k) : smallE e = false := by
  cases hb : smallE e with
  | false => rfl
  | true => have := smallE_nth hb hk; omega
theorem key7_bound : ∀ (e : List Int), (∀ k, k < e.length → 0 ≤ nth e k ∧ nth e k ≤ 24) → 0 ≤ key7 e ∧ key7 e < 128 ^ e.length
  | [], _ => by simp [key7]
  | x :: e, h => by
    have ih := key7_bound e (fun k hk => by have := h (k + 1) (by simp; omega); simpa [nth] using this)
    have h0 := h 0 (by simp)
    have h1 : nth (x :: e) 0 = x := by simp [nth]
    rw [h1] at h0
    have e1 : key7 (x :: e) = key7 e * 128 + x := rfl
    rw [e1, List.length_cons, Int.pow_succ]
    omega
theorem key7_lt : ∀ (a b : List Int) (i : Nat), a.length = b.length → (∀ k, k < a.length → 0 ≤ nth a k ∧ nth a k ≤ 127) → (∀ k, k < b.length → 0 ≤ nth b k ∧ nth b k ≤ 127) → i < a.length →
    (∀ j, i < j → j < a.length → nth a j = nth b j) → nth a i < nth b i → key7 a < key7 b
  | [], _, i, _, _, _, hi, _, _ => absurd hi (by simp)
  | x :: a, [], i, hl, _, _, _, _, _ => absurd hl (by simp)
  | x :: a, y :: b, 0, hl, ha, hb, hi, he, hx => by
    have e1 : key7 (x :: a) = key7 a * 128 + x := rfl
    have e2 : key7 (y :: b) = key7 b * 128 + y := rfl
    have e3 : a = b := by
      apply List.ext_getElem (by simpa using hl)
      intro j h1 h2
      have := he (j + 1) (by omega) (by simp; omega)
      simpa [nth, h1, h2] using this
    have h0 : x < y := by simpa [nth] using hx
    rw [e1, e2, e3]
    omega
  | x :: a, y :: b, i + 1, hl, ha, hb, hi, he, hx => by
    have e1 : key7 (x :: a) = key7 a * 128 + x := rfl
    have e2 : key7 (y :: b) = key7 b * 128 + y := rfl
    have ih := key7_lt a b i (by simpa using hl) (fun k hk => by have := ha (k + 1) (by simp; omega); simpa [nth] using this) (fun k hk => by have := hb (k + 1) (by simp; omega); simpa [nth] using this) (by simpa using hi)
      (fun j h1 h2 => by have := he (j + 1) (by omega) (by simp; omega); simpa [nth] using this) (by simpa [nth] using hx)
    have ha0 := ha 0 (by simp)
    have hb0 := hb 0 (by simp)
    have h1 : nth (x :: a) 0 = x := by simp [nth]
    have h2 : nth (y :: b) 0 = y := by simp [nth]
    rw [h1] at ha0
    rw [h2] at hb0
    rw [e1, e2]
    omega

/-- A term with seven exponents from 0 to 24 and a number other than 0 of at most a million. -/
def goodT (t : Tm) : Bool := decide (t.1.length = 7) && smallE t.1 && decide (t.2 ≠ 0 ∧ -1000000 ≤ t.2 ∧ t.2 ≤ 1000000)
theorem goodT_iff (t : Tm) : goodT t = true ↔ t.1.length = 7 ∧ smallE t.1 = true ∧ t.2 ≠ 0 ∧ -1000000 ≤ t.2 ∧ t.2 ≤ 1000000 := by
  simp [goodT, and_assoc]
theorem goodT_no {t : Tm} (h : ¬ (t.1.length = 7 ∧ smallE t.1 = true ∧ t.2 ≠ 0 ∧ -1000000 ≤ t.2 ∧ t.2 ≤ 1000000)) : goodT t = false := by
  cases hb : goodT t with
  | false => rfl
  | true => exact absurd ((goodT_iff t).1 hb) h
/-- Term k is good and stands behind the one ahead of it. -/
def okAt (ts : List Tm) (k : Nat) : Bool := goodT (tm ts k) && (decide (k = 0) || decide (key7 (tm ts k).1 < key7 (tm ts (k - 1)).1))
def polyB (ts : List Tm) : Bool := decide (ts.length ≤ 600) && (List.range ts.length).all fun k => okAt ts k
theorem polyB_big {ts : List Tm} (h : 600 < ts.length) : polyB ts = false := by simp [polyB]; omega
theorem polyB_all {ts : List Tm} (h : ts.length ≤ 600) (hk : ∀ k, k < ts.length → okAt ts k = true) : polyB ts = true := by
  simp only [polyB, Bool.and_eq_true, decide_eq_true_eq, List.all_eq_true, List.mem_range]
  exact ⟨h, hk⟩
theorem polyB_len {ts : List Tm} (h : polyB ts = true) : ts.length ≤ 600 := by
  simp only [polyB, Bool.and_eq_true, decide_eq_true_eq] at h
  exact h.1
theorem polyB_ok {ts : List Tm} (h : polyB ts = true) {k : Nat} (hk : k < ts.length) : okAt ts k = true := by
  simp only [polyB, Bool.and_eq_true, decide_eq_true_eq, List.all_eq_true, List.mem_range] at h
  exact h.2 k hk
theorem polyB_good {ts : List Tm} (h : polyB ts = true) {k : Nat} (hk : k < ts.length) : goodT (tm ts k) = true := by
  have := polyB_ok h hk
  simp only [okAt, Bool.and_eq_true] at this
  exact this.1
theorem polyB_no {ts : List Tm} {k : Nat} (hk : k < ts.length) (h : okAt ts k = false) : polyB ts = false := by
  cases hb : polyB ts with
  | false => rfl
  | true => have := polyB_ok hb hk; rw [h] at this; cases this
theorem okAt_good {ts : List Tm} {k : Nat} (h : okAt ts k = true) : goodT (tm ts k) = true := by
  simp only [okAt, Bool.and_eq_true] at h
  exact h.1
theorem okAt_bad {ts : List Tm} {k : Nat} (h : goodT (tm ts k) = false) : okAt ts k = false := by simp [okAt, h]
theorem okAt_zero {ts : List Tm} (h : goodT (tm ts 0) = true) : okAt ts 0 = true := by simp [okAt, h]
theorem okAt_step {ts : List Tm} {k : Nat} (h : goodT (tm ts k) = true) (hk : key7 (tm ts k).1 < key7 (tm ts (k - 1)).1) : okAt ts k = true := by simp [okAt, h, hk]
theorem okAt_wrong {ts : List Tm} {k : Nat} (h0 : 0 < k) (hk : ¬ key7 (tm ts k).1 < key7 (tm ts (k - 1)).1) : okAt ts k = false := by
  have : k ≠ 0 := by omega
  simp [okAt, hk, this]
end Go.Proofs.Ytjpoliibljjhnaa

/-
  Slices of terms in memory: how they read, and slices of terms that a call owns. Plain lemmas. No conditions.
-/


namespace Go.Proofs.Ytjpoliibljjhnaa
open Go.RowKit

/-- The slice (A, n) reads as the terms ts. -/
def TS (w : World) (A : Option Addr) (n : Nat) (ts : List Tm) : Prop :=
  ts.length = n ∧ (0 < n → ∃ b o, A = some ⟨b, o, none⟩ ∧ b < w.heap.size ∧ ∀ k, k < n → ∃ A' n' c', w.cell? ⟨b, o + k * 2, none⟩ = some (.slice A' n' c') ∧
    w.cell? ⟨b, o + k * 2 + 1, none⟩ = some (.int .i64 (tm ts k).2) ∧ SI w A' n' (tm ts k).1 ∧ n' ≤ c' ∧ (A' = none → n' = 0 ∧ c' = 0))
section
variable {w w' : World} {A : Option Addr} {n : Nat} {ts : List Tm}
theorem TS.nil (w : World) (A : Option Addr) : TS w A 0 [] := ⟨rfl, fun h => absurd h (by omega)⟩
theorem TS.at_ (h : TS w A n ts) {k : Nat} (hk : k < n) : ∃ b o A' n' c', A = some ⟨b, o, none⟩ ∧ b < w.heap.size ∧ w.cell? ⟨b, o + k * 2, none⟩ = some (.slice A' n' c') ∧
    w.cell? ⟨b, o + k * 2 + 1, none⟩ = some (.int .i64 (tm ts k).2) ∧ SI w A' n' (tm ts k).1 ∧ n' ≤ c' ∧ (A' = none → n' = 0 ∧ c' = 0) := by
  obtain ⟨b, o, e, hb, hc⟩ := h.2 (by omega)
  obtain ⟨A', n', c', h1⟩ := hc k hk
  exact ⟨b, o, A', n', c', e, hb, h1⟩
theorem TS.below {B : Nat} (h : TS w A n ts) (hb : Below B w w') (hB : w.heap.size ≤ B) : TS w' A n ts :=
  ⟨h.1, fun hn => by
    obtain ⟨b, o, e, hl, hc⟩ := h.2 hn
    have hs := hb.size
    refine ⟨b, o, e, by omega, fun k hk => ?_⟩
    obtain ⟨A', n', c', h1, h2, h3, h4⟩ := hc k hk
    exact ⟨A', n', c', (hb.cell (p := ⟨b, o + k * 2, none⟩) (by show b < B; omega)).trans h1, (hb.cell (p := ⟨b, o + k * 2 + 1, none⟩) (by show b < B; omega)).trans h2, h3.below hb hB, h4⟩⟩
theorem TS.drewN (h : TS w A n ts) (k : Nat) : TS (w.drewN k) A n ts := h
theorem TS.drawn (h : TS w A n ts) (hd : Drawn w w') : TS w' A n ts := by obtain ⟨m, rfl⟩ := hd; exact h
theorem TS.alloc (h : TS w A n ts) (o : Obj) : TS (w.alloc o) A n ts := h.below ((Below.refl w.heap.size w).alloc (Nat.le_refl _) o) (Nat.le_refl _)
end

/-- A list of pairs of cells. -/
def cells2 (n : Nat) (f : Nat → Value × Value) : List Value := (List.range (n * 2)).map fun j => if j % 2 = 0 then (f (j / 2)).1 else (f (j / 2)).2
theorem cells2_len (n : Nat) (f : Nat → Value × Value) : (cells2 n f).length = n * 2 := by simp [cells2]
theorem cells2_get {n : Nat} (f : Nat → Value × Value) {j : Nat} (h : j < n * 2) : (cells2 n f)[j]? = some (if j % 2 = 0 then (f (j / 2)).1 else (f (j / 2)).2) := by
  simp [cells2, h]
theorem cells2_get0 {n : Nat} (f : Nat → Value × Value) {k : Nat} (h : k < n) : (cells2 n f)[k * 2]? = some (f k).1 := by
  rw [cells2_get f (by omega), if_pos (by omega), show k * 2 / 2 = k by omega]
theorem cells2_get1 {n : Nat} (f : Nat → Value × Value) {k : Nat} (h : k < n) : (cells2 n f)[k * 2 + 1]? = some (f k).2 := by
  rw [cells2_get f (by omega), if_neg (by omega), show (k * 2 + 1) / 2 = k by omega]
theorem cells2_congr {n : Nat} {f g : Nat → Value × Value} (h : ∀ k, k < n → f k = g k) : cells2 n f = cells2 n g := by
  apply List.map_congr_left
  intro j hj
  have := List.mem_range.1 hj
  rw [h (j / 2) (by omega)]
theorem cells2_set0 {n : Nat} (f : Nat → Value × Value) {k : Nat} (_h : k < n) (v : Value) : (cells2 n f).set (k * 2) v = cells2 n (fun j => if j = k then (v, (f j).2) else f j) := by
  apply List.ext_getElem?
  intro j
  by_cases hj : j < n * 2
  · rw [cells2_get _ hj]
    by_cases e : j = k * 2
    · subst e
      rw [List.getElem?_set_self (by rw [cells2_len]; omega), if_pos (by omega), show k * 2 / 2 = k by omega, if_pos rfl]
    · rw [List.getElem?_set_ne (by omega), cells2_get _ hj]
      by_cases e2 : j / 2 = k
      · rw [if_neg (by omega), if_neg (by omega), if_pos e2]
      · rw [if_neg e2]
  · rw [List.getElem?_eq_none (by simp [cells2_len]; omega), List.getElem?_eq_none (by simp [cells2_len]; omega)]
theorem cells2_set1 {n : Nat} (f : Nat → Value × Value) {k : Nat} (_h : k < n) (v : Value) : (cells2 n f).set (k * 2 + 1) v = cells2 n (fun j => if j = k then ((f j).1, v) else f j) := by
  apply List.ext_getElem?
  intro j
  by_cases hj : j < n * 2
  · rw [cells2_get _ hj]
    by_cases e : j = k * 2 + 1
    · subst e
      rw [List.getElem?_set_self (by rw [cells2_len]; omega), if_neg (by omega), show (k * 2 + 1) / 2 = k by omega, if_pos rfl]
    · rw [List.getElem?_set_ne (by omega), cells2_get _ hj]
      by_cases e2 : j / 2 = k
      · rw [if_pos (by omega), if_pos (by omega), if_pos e2]
      · rw [if_neg e2]
  · rw [List.getElem?_eq_none (by simp [cells2_len]; omega), List.getElem?_eq_none (by simp [cells2_len]; omega)]
theorem cells2_app (n : Nat) (f : Nat → Value × Value) (a b : Value) : cells2 n f ++ [a, b] = cells2 (n + 1) (fun j => if j = n then (a, b) else f j) := by
  apply List.ext_getElem?
  intro j
  by_cases hj : j < n * 2
  · rw [List.getElem?_append_left (by rw [cells2_len]; exact hj), cells2_get _ hj, cells2_get _ (by omega), if_neg (show ¬ j / 2 = n by omega)]
  · rw [List.getElem?_append_right (by rw [cells2_len]; omega), cells2_len]
    by_cases h1 : j = n * 2
    · subst h1
      rw [cells2_get _ (by omega), if_pos (by omega), if_pos (by omega)]; simp
    · by_cases h2 : j = n * 2 + 1
      · subst h2
        rw [cells2_get _ (by omega), if_neg (by omega), if_pos (by omega)]; simp
      · rw [List.getElem?_eq_none (by simp; omega), List.getElem?_eq_none (by simp [cells2_len]; omega)]

abbrev Sv := Option Addr × Nat × Nat
def sv (e : Sv) : Value := .slice e.1 e.2.1 e.2.2
section
variable {w w' : World} {lo hi n c : Nat} {A : Option Addr} {ts : List Tm}
theorem Own.nilcap {xs : List Int} (h : Own w lo hi none n c xs) : n = 0 ∧ c = 0 := by
  rcases h.1.2 with ⟨e, h0⟩ | ⟨g, cap, cur, e, _⟩
  · injection e with _ _ e3; exact ⟨h0, e3⟩
  · injection e with e1; cases e1
end
/-- Nothing outside lo .. hi was changed. -/
def Within (lo hi : Nat) (w w' : World) : Prop := w'.os = w.os ∧ w'.tape = w.tape ∧ w'.output = w.output ∧ w.heap.size ≤ w'.heap.size ∧ ∀ k, k < w.heap.size → k < lo ∨ hi ≤ k → w'.heap[k]? = w.heap[k]?
theorem Within.refl (lo hi : Nat) (w : World) : Within lo hi w w := ⟨rfl, rfl, rfl, Nat.le_refl _, fun _ _ _ => rfl⟩
theorem Within.trans {lo hi : Nat} {w w' w'' : World} (h : Within lo hi w w') (h' : Within lo hi w' w'') : Within lo hi w w'' :=
  ⟨h'.1.trans h.1, h'.2.1.trans h.2.1, h'.2.2.1.trans h.2.2.1, Nat.le_trans h.2.2.2.1 h'.2.2.2.1, fun k h0 hk => (h'.2.2.2.2 k (Nat.lt_of_lt_of_le h0 h.2.2.2.1) hk).trans (h.2.2.2.2 k h0 hk)⟩
theorem Within.size {lo hi : Nat} {w w' : World} (h : Within lo hi w w') : w.heap.size ≤ w'.heap.size := h.2.2.2.1
theorem Within.below {lo hi B : Nat} {w w' : World} (h : Within lo hi w w') (hB : B ≤ lo) (hB' : B ≤ w.heap.size) : Below B w w' :=
  ⟨h.1, h.2.1, h.2.2.1, h.2.2.2.1, fun k hk => h.2.2.2.2 k (by omega) (.inl (by omega))⟩
theorem Within.of_grown {lo hi : Nat} {w w' : World} {row : Option Nat} (hg : w.grownBy w' row) (hr : ∀ g, row = some g → lo ≤ g ∧ g < hi) : Within lo hi w w' :=
  ⟨hg.os, hg.tape, hg.output, hg.size, fun k h0 hk => hg.block k h0 (fun e => by have := hr k e.symm; omega)⟩
theorem Within.of_drawn {lo hi : Nat} {w w' : World} (h : Drawn w w') : Within lo hi w w' := by obtain ⟨m, rfl⟩ := h; exact ⟨rfl, rfl, rfl, Nat.le_refl _, fun _ _ _ => rfl⟩
theorem Own.within {w w' : World} {lo hi n c lo' hi' : Nat} {A : Option Addr} {xs : List Int} (h : Own w lo hi A n c xs) (hw : Within lo' hi' w w') (hd : hi ≤ lo' ∨ hi' ≤ lo) : Own w' lo hi A n c xs := by
  refine ⟨⟨h.1.1, ?_⟩, h.2⟩
  rcases h.1.2 with hn | ⟨g, cap, cur, e, hl, hg, rest⟩
  · exact .inl hn
  · have hlt := h.2 g (by rw [e]; rfl)
    have hsz := (h.1.lt g (by rw [e]; rfl)).2
    exact .inr ⟨g, cap, cur, e, hl, (hw.2.2.2.2 g hsz (by omega)).trans hg, rest⟩
theorem Own.kept {w w' : World} {lo hi n c : Nat} {A : Option Addr} {xs : List Int} {row : Option Nat} (h : Own w lo hi A n c xs) (hg : w.grownBy w' row) (hne : ∀ g, (Value.slice A n c).ownBlock = some g → row ≠ some g) : Own w' lo hi A n c xs := by
  refine ⟨h.1.kept hg ?_, h.2⟩
  cases hb : (Value.slice A n c).ownBlock with
  | none => exact .inl rfl
  | some g => exact .inr fun e => hne g hb e.symm
theorem tm_set {ts : List Tm} {k j : Nat} (hk : k < ts.length) (t : Tm) : tm (ts.set k t) j = if j = k then t else tm ts j := by
  unfold tm
  rw [List.getD_eq_getElem?_getD, List.getD_eq_getElem?_getD, List.getElem?_set]
  by_cases e : k = j
  · subst e; simp [hk]
  · rw [if_neg e, if_neg (fun h => e h.symm)]
def zeroT (n : Nat) : List Tm := List.replicate n ([], 0)
theorem zeroT_tm (n k : Nat) : tm (zeroT n) k = ([], 0) := by
  unfold tm zeroT
  by_cases h : k < n
  · simp [List.getD, h]
  · simp [List.getD, h]
end Go.Proofs.Ytjpoliibljjhnaa

/-
  The helpers of the exact laws at terms: copying, measuring, comparing. Conditions: lengths below 2^40.
-/

namespace Go.Proofs.Ytjpoliibljjhnaa
open Go.RowKit

theorem grown_set (w : World) (a : Addr) (u : Value) : w.grownBy (w.setCell a u) (some a.block) :=
  ⟨rfl, rfl, rfl, by simp [World.setCell], fun k _ hk => Below.heap_setCell w a u k (fun e => hk (by rw [e]))⟩
theorem results_row {P : Program} {fn : Func} {p : Tmp} {ty : TypeId} (h : fn.results = #[.cell p ty]) (tmps : Array Value) (w : World) (g : Nat) (t : TypeId) (cs : Array Value) (d : TypeDesc)
    (hp : tmps.getD p undef = .pointer (some ⟨g, 0, none⟩)) (hg : Blk w g t cs) (hu : P.underlying ty = some d) (hd : (match d with | .struct _ | .array _ _ => true | _ => false) = true) (hi : (P.info? ty).map (·.size) = some cs.size) :
    (results fn tmps).run P w = .ok (.agg cs) w :=
  results_cell_row h tmps w g t cs (0, 0) d hp hg hu hd hi

/-- The terms copied after k rounds. -/
def copT (ts : List Tm) (k : Nat) : List Tm := ts.take k ++ zeroT (ts.length - k)
theorem copT_zero (ts : List Tm) : copT ts 0 = zeroT ts.length := by simp [copT]
theorem copT_all (ts : List Tm) : copT ts ts.length = ts := by simp [copT, zeroT]
theorem copT_succ {ts : List Tm} {k : Nat} (h : k < ts.length) : (copT ts k).set k ((tm ts k).1, (tm ts k).2) = copT ts (k + 1) := by
  unfold copT zeroT
  have hl : (ts.take k).length = k := by simp; omega
  rw [List.set_append_right _ _ (by omega), hl]
  have e : ts.length - k = (ts.length - (k + 1)) + 1 := by omega
  rw [e, List.replicate_succ, Nat.sub_self, List.set_cons_zero, take_tm h, List.append_assoc]
  rfl

end Go.Proofs.Ytjpoliibljjhnaa

/-
  The helpers of the exact laws at terms: measuring and comparing. Conditions: lengths below 2^40.
-/




namespace Go.Proofs.Ytjpoliibljjhnaa
open Go.RowKit

section
variable {P : Program} {ops : Array Oper} {C : World → Prop} {Q : Act → Prop} {a : Act} {o : Oper} {rest : List Oper}
theorem tq_class {id : Nat} {Q : Exit → Act → World → Prop} {w : World} {l : List Oper} (C : World → Prop) (hm : P.follows .mixedOrders = true) (hB : Region.lexB .any l.toArray = true) (hC : C w.drew)
    (h : wpQuiet P l.toArray C (fun a' => ∀ w', C w' → Q .normal a' w') l a) : (Code.region id l.toArray true).wp P Q a w :=
  wp_region_quiet hm hB hC (by simpa using h)
theorem tq_move (hg : o.guard = none) (x : Operand) (ho : o.op = .move x) (h : wpQuiet P ops C Q rest (a.put o.dst (a.eval x))) : wpQuiet P ops C Q (o :: rest) a := by
  refine wpQuiet_step fun K hK => ?_
  simp only [Region.wanted, hg, if_true]
  refine ⟨a.eval x, fun w _ => ?_, hK _ h⟩
  unfold Oper.quietAt execOp
  simp only [ho]
  exact ⟨rfl, rfl⟩
theorem tq_load (hg : o.guard = none) (ty : TypeId) (x : Operand) (ho : o.op = .load ty x) (b off : Nat) (hx : a.eval x = .pointer (some ⟨b, off, none⟩)) (cs : List Value) (d : TypeDesc)
    (hb : ∀ w, C w → w.rangeAt b off cs) (hu : P.underlying ty = some d) (hd : d.isRow = true) (hi : (P.info? ty).map (·.size) = some cs.length) (h : wpQuiet P ops C Q rest (a.put o.dst (.agg cs.toArray))) : wpQuiet P ops C Q (o :: rest) a := by
  refine wpQuiet_step fun K hK => ?_
  simp only [Region.wanted, hg, if_true]
  refine ⟨.agg cs.toArray, fun w hw => ?_, hK _ h⟩
  unfold Oper.quietAt execOp
  simp only [ho, hx, Instr.loadAt, Instr.sureAddr, Sem.run_bind, Sem.run_pure, Result.andThen_ok, run_loadVar_mid w b off ty cs d (hb w hw) hu hd hi]
  exact ⟨rfl, rfl⟩
end
/-- Worlds in which nothing has turned that was there. -/
def AfterT (wr w' : World) : Prop := Below wr.heap.size wr w'

/-- Equality of two lists of terms as a Bool. -/
def eqTs (ts us : List Tm) : Bool := decide (ts = us)
theorem eqTs_self (ts : List Tm) : eqTs ts ts = true := by simp [eqTs]
theorem eqTs_len {ts us : List Tm} (h : ts.length ≠ us.length) : eqTs ts us = false := by
  simp only [eqTs, decide_eq_false_iff_not]; intro e; exact h (by rw [e])
theorem eqTs_all {ts us : List Tm} (hl : ts.length = us.length) (h : ∀ j, j < ts.length → tm ts j = tm us j) : eqTs ts us = true := by
  simp only [eqTs, decide_eq_true_eq]
  exact tm_ext hl h
theorem eqTs_ne {ts us : List Tm} {k : Nat} (h : tm ts k ≠ tm us k) : eqTs ts us = false := by
  simp only [eqTs, decide_eq_false_iff_not]; intro e; exact h (by rw [e])
theorem TS.range {w : World} {b o k : Nat} {v : Value} {x : Int} (h0 : w.cell? ⟨b, o + k * 2, none⟩ = some v) (h1 : w.cell? ⟨b, o + k * 2 + 1, none⟩ = some (.int .i64 x)) : w.rangeAt b (o + k * 2) [v, .int .i64 x] := by
  intro j u hj
  match j, hj with
  | 0, hj => simp at hj; subst hj; exact h0
  | 1, hj => simp at hj; subst hj; exact h1

end Go.Proofs.Ytjpoliibljjhnaa

/-
  The program's own test for permutations, as arrays: contracts. Conditions: the length is at most 2^40.
-/

namespace Go.Proofs.Ytjpoliibljjhnaa
open Go.RowKit

/-- An array of integers as a value. -/
abbrev arrC (l : List Int) : Array Value := #[.int .i64 (nth l 0), .int .i64 (nth l 1), .int .i64 (nth l 2), .int .i64 (nth l 3), .int .i64 (nth l 4), .int .i64 (nth l 5), .int .i64 (nth l 6)]
abbrev arr (l : List Int) : Value := .agg (arrC l)

theorem isPermSize_any (a : Int) (w : World) :
    Calls Try.prog 182 #[.int .i64 a] w fun e w' => e = .returned (.bool (decide (1 ≤ a) && decide (a ≤ 7))) ∧ w = w' := by
  by_cases h1 : 1 ≤ a
  · by_cases h2 : a ≤ 7
    · go_enter Try.func182, Try.ntmps182
      go_wp2
      go_ret
      exact ⟨ret_bool (by simp [h1, h2]), rfl⟩
    · go_enter Try.func182, Try.ntmps182
      go_wp2
      go_ret
      exact ⟨ret_bool (by simp [h2]), rfl⟩
  · have h1' : a < 1 := by omega
    go_enter Try.func182, Try.ntmps182
    go_wp2
    go_ret
    exact ⟨ret_bool (by simp; intro; omega), rfl⟩
theorem isPermSize_yes {a : Int} (h : 1 ≤ a) (h' : a ≤ 7) (w : World) :
    Calls Try.prog 182 #[.int .i64 a] w fun e w' => e = .returned (.bool true) ∧ w = w' := by
  have := isPermSize_any a w
  simpa [h, h'] using this
theorem isPermSize_no {a : Int} (h : a < 1 ∨ 7 < a) (w : World) :
    Calls Try.prog 182 #[.int .i64 a] w fun e w' => e = .returned (.bool false) ∧ w = w' := by
  have e : (decide (1 ≤ a) && decide (a ≤ 7)) = false := by simp; omega
  have := isPermSize_any a w
  rwa [e] at this

set_option maxHeartbeats 1000000 in
theorem identityArray_any (w : World) :
    Calls Try.prog 188 #[] w fun e w' => e = .returned (.agg #[.int .i64 0, .int .i64 1, .int .i64 2, .int .i64 3, .int .i64 4, .int .i64 5, .int .i64 6]) ∧ Below w.heap.size w w' := by
  go_enter Try.func188, Try.ntmps188
  go_wp2
  go_rounds 8
  go_returns
  exact ⟨rfl, by go_grown⟩

/-- The array of a permutation, k places filled: behind them each number stands at its place. -/
def fillA (xs : List Int) (k : Nat) : List Int := (List.range 7).map fun (j : Nat) => if j < k then nth xs j else (j : Int)
theorem fillA_len (xs : List Int) (k : Nat) : (fillA xs k).length = 7 := by simp [fillA]
theorem fillA_nth (xs : List Int) (k j : Nat) (hj : j < 7) : nth (fillA xs k) j = if j < k then nth xs j else (j : Int) := by
  rw [nth_get (by rw [fillA_len]; exact hj)]
  simp [fillA]
/-- Which numbers are among the first k. -/
def seenC (xs : List Int) (k : Nat) : Array Value := ((List.range 7).map fun (v : Nat) => Value.bool (hasB (xs.take k) (v : Int))).toArray
theorem lt7 {k : Nat} (h : k < 7) : k = 0 ∨ k = 1 ∨ k = 2 ∨ k = 3 ∨ k = 4 ∨ k = 5 ∨ k = 6 := by omega
theorem arrC_get (l : List Int) (k : Nat) (h : k < 7) : (arrC l)[k]? = some (.int .i64 (nth l k)) := by
  rcases lt7 h with rfl | rfl | rfl | rfl | rfl | rfl | rfl <;> rfl
theorem arrC_set (l : List Int) (k : Nat) (h : k < 7) (x : Int) (hl : l.length = 7) : (arrC l).setIfInBounds k (.int .i64 x) = arrC (l.set k x) := by
  match l, hl with
  | [a, b, c, d, e, f, g], _ =>
    rcases lt7 h with rfl | rfl | rfl | rfl | rfl | rfl | rfl <;> rfl
theorem arrC_fill (xs : List Int) (k : Nat) (h : k < 7) : (arrC (fillA xs k)).setIfInBounds k (.int .i64 (nth xs k)) = arrC (fillA xs (k + 1)) := by
  rw [arrC_set _ k h _ (fillA_len _ _)]
  congr 1
  apply List.ext_getElem (by simp [fillA])
  intro j h1 h2
  rw [List.getElem_set]
  simp only [fillA, List.getElem_map, List.getElem_range]
  by_cases e : k = j
  · subst e; simp
  · rw [if_neg e]
    by_cases h3 : j < k
    · rw [if_pos h3, if_pos (by omega)]
    · rw [if_neg h3, if_neg (by omega)]
theorem seenC_zero (xs : List Int) : seenC xs 0 = #[.bool false, .bool false, .bool false, .bool false, .bool false, .bool false, .bool false] := by
  simp [seenC, hasB, List.range_succ]
theorem seenC_get (xs : List Int) (k : Nat) (x : Int) (h0 : 0 ≤ x) (h7 : x < 7) : (seenC xs k)[x.toNat]? = some (.bool (hasB (xs.take k) x)) := by
  have e : ((x.toNat : Nat) : Int) = x := by omega
  simp only [seenC, List.getElem?_toArray, List.getElem?_map]
  rw [List.getElem?_range (by omega)]
  simp [e]
theorem seenC_set (xs : List Int) (k : Nat) (hk : k < xs.length) (h0 : 0 ≤ nth xs k) : (seenC xs k).setIfInBounds (nth xs k).toNat (.bool true) = seenC xs (k + 1) := by
  apply Array.ext_getElem?
  intro j
  rw [Array.getElem?_setIfInBounds]
  by_cases e : (nth xs k).toNat = j
  · rw [if_pos e]
    by_cases hj : j < 7
    · rw [if_pos (by simp [seenC]; omega)]
      simp only [seenC, List.getElem?_toArray, List.getElem?_map]
      rw [List.getElem?_range hj, take_nth hk]
      have : ((j : Nat) : Int) = nth xs k := by omega
      simp [hasB, this]
    · rw [if_neg (by simp [seenC]; omega)]
      symm
      apply Array.getElem?_eq_none
      simp [seenC]; omega
  · rw [if_neg e]
    by_cases hj : j < 7
    · simp only [seenC, List.getElem?_toArray, List.getElem?_map]
      rw [List.getElem?_range hj, take_nth hk]
      have : ¬ ((j : Nat) : Int) = nth xs k := by omega
      simp [hasB, this]
    · rw [Array.getElem?_eq_none (by simp [seenC]; omega), Array.getElem?_eq_none (by simp [seenC]; omega)]

abbrev zeroC : Array Value := #[.int .i64 0, .int .i64 0, .int .i64 0, .int .i64 0, .int .i64 0, .int .i64 0, .int .i64 0]

theorem Try.infoArr : (Try.prog.info? 107).map (·.size) = some 7 := by kernel_rfl
theorem Try.undArr : Try.prog.underlying 107 = some (.array 7 3) := Try.underlying107
theorem zeroC_one : zeroC.all (·.oneCell') = true := by simp [Value.oneCell']
theorem arrC_one (l : List Int) : (arrC l).all (·.oneCell') = true := by simp [Value.oneCell']
set_option maxHeartbeats 2000000 in
theorem arrayOf_any (A : Option Addr) (n c : Nat) (xs : List Int) (w : World) (hs : SI w A n xs) (hn : n ≤ 1099511627776) :
    Calls Try.prog 97 #[.slice A n c] w fun e w' => (isPermB xs = true ∧ e = .returned (.tuple #[arr (fillA xs n), .bool true]) ∨ isPermB xs = false ∧ e = .returned (.tuple #[.agg zeroC, .bool false])) ∧ Below w.heap.size w w' := by
  have hl := hs.1
  by_cases hsz : 1 ≤ n ∧ n ≤ 7
  · obtain ⟨hs1, hs7⟩ := hsz
    go_enter Try.func97, Try.ntmps97
    go_wp2_with (first | (go_at_call 182; refine (isPermSize_yes (by omega) (by omega) _).mono ?_; rintro e w1 ⟨rfl, rfl⟩) | (go_at_call 188; refine (identityArray_any _).mono ?_; rintro e w2 ⟨rfl, hb2⟩))
    have hbR : Blk w2 w.heap.size 107 zeroC := ((Blk.new w 107 zeroC).below hb2 (by simp))
    have hbw : Below w.heap.size w w2 := ((Below.refl _ _).alloc (Nat.le_refl _) _).trans (hb2.mono (by simp))
    have hb0 := Blk.new w2 107 (arrC (fillA xs 0))
    have hb1 := Blk.new (w2.alloc (.cells #[.int .i64 0, .int .i64 1, .int .i64 2, .int .i64 3, .int .i64 4, .int .i64 5, .int .i64 6] 107)) 168 (seenC xs 0)
    rw [show (w2.alloc (.cells #[.int .i64 0, .int .i64 1, .int .i64 2, .int .i64 3, .int .i64 4, .int .i64 5, .int .i64 6] 107)).heap.size = w2.heap.size + 1 from by simp, seenC_zero] at hb1
    have HW2 : Hid (w.heap.size + 1 ≤ w2.heap.size) := Lib.hid (by have := hb2.size; simpa using this)
    clear hb2
    go_loopw [16] (fun i wr => ∃ k : Nat, k ≤ n ∧ i = .int .i64 k ∧ Blk wr w.heap.size 107 zeroC ∧ Blk wr w2.heap.size 107 (arrC (fillA xs k)) ∧ Blk wr (w2.heap.size + 1) 168 (seenC xs k) ∧ Below w.heap.size w wr ∧ ∀ j, j < k → goodAt xs j)
      (fun i _ => n - (intOf i).toNat)
    case atStart =>
      refine ⟨0, Nat.zero_le _, rfl, (hbR.alloc _).alloc _, ?_, ?_, ?_, fun j hj => absurd hj (by omega)⟩
      · exact hb0.alloc _
      · rw [seenC_zero]; exact hb1
      · exact (hbw.alloc hbw.size _).alloc (by have := hbw.size; simp; omega) _
    case round =>
      obtain ⟨k, hk, rfl, hR, hG, hS, hB, hall⟩ := hrel
      have HA := Lib.hid hall
      have HL := Lib.hid hl
      have HB := Lib.hid hB
      have HR := Lib.hid hR
      have HG := Lib.hid hG
      have HS := Lib.hid hS
      clear hall hl hB hR hbw hb0 hb1 hbR hG hS
      by_cases hlt : k < n
      · obtain ⟨b, o, e1, hb, hc⟩ := hs.at_ (by omega)
        have hc1 : wr.cell? ⟨b, o + k, none⟩ = some (.int .i64 (nth xs k)) := (HB.out.cell (p := ⟨b, o + k, none⟩) hb).trans (hc k hlt)
        subst e1
        obtain ⟨x, hx⟩ : ∃ x, x = nth xs k := ⟨_, rfl⟩
        rw [← hx] at hc1
        have HX := Lib.hid hx
        clear hc hs hx
        by_cases hx0 : x < 0
        · have hf : isPermB xs = false := by
            refine isPermB_false fun hp => ?_
            obtain ⟨g1, _, _⟩ := (hp.2.2 k (by have := HL.out; omega))
            rw [← HX.out] at g1; omega
          have HF := Lib.hid hf
          clear hf
          go_wp2_with (refine wpList_store_blk rfl 107 (.tmp 2) (.tmp 34) rfl w.heap.size zeroC rfl rfl 107 zeroC HR.out Try.infoArr rfl zeroC_one ?_; intro w3 hR3 hg3)
          refine bodyPost_ret (results_blk_tmp Try.results97 _ _ _ _ _ 7 3 rfl hR3 Try.undArr Try.infoArr) rfl ?_
          exact ⟨.inr ⟨HF.out, rfl⟩, HB.out.grown hg3 HB.out.size (by rintro _ ⟨⟩; exact Nat.le_refl _)⟩
        · by_cases hxn : (n : Int) ≤ x
          · have hf : isPermB xs = false := by
              refine isPermB_false fun hp => ?_
              obtain ⟨_, g1, _⟩ := (hp.2.2 k (by have := HL.out; omega))
              rw [← HX.out, HL.out] at g1; omega
            have HF := Lib.hid hf
            clear hf
            go_wp2_with (refine wpList_store_blk rfl 107 (.tmp 2) (.tmp 34) rfl w.heap.size zeroC rfl rfl 107 zeroC HR.out Try.infoArr rfl zeroC_one ?_; intro w3 hR3 hg3)
            refine bodyPost_ret (results_blk_tmp Try.results97 _ _ _ _ _ 7 3 rfl hR3 Try.undArr Try.infoArr) rfl ?_
            exact ⟨.inr ⟨HF.out, rfl⟩, HB.out.grown hg3 HB.out.size (by rintro _ ⟨⟩; exact Nat.le_refl _)⟩
          · have hx0' : 0 ≤ x := by omega
            have hx7 : x < 7 := by omega
            have hcS : wr.cell? ⟨w2.heap.size + 1, x.toNat, none⟩ = some (.bool (hasB (xs.take k) x)) := (HS.out.cell _).trans (seenC_get xs k x hx0' hx7)
            have hfS := HS.out.frozen x.toNat
            cases hh : hasB (xs.take k) x with
            | true =>
              rw [hh] at hcS
              have hf : isPermB xs = false := by
                refine isPermB_false fun hp => ?_
                obtain ⟨_, _, g3⟩ := (hp.2.2 k (by have := HL.out; omega))
                rw [← HX.out, hh] at g3; cases g3
              have HF := Lib.hid hf
              clear hf hh
              go_wp2_with (refine wpList_store_blk rfl 107 (.tmp 2) (.tmp 34) rfl w.heap.size zeroC rfl rfl 107 zeroC HR.out Try.infoArr rfl zeroC_one ?_; intro w3 hR3 hg3)
              refine bodyPost_ret (results_blk_tmp Try.results97 _ _ _ _ _ 7 3 rfl hR3 Try.undArr Try.infoArr) rfl ?_
              exact ⟨.inr ⟨HF.out, rfl⟩, HB.out.grown hg3 HB.out.size (by rintro _ ⟨⟩; exact Nat.le_refl _)⟩
            | false =>
              rw [hh] at hcS
              have HGd : Hid (goodAt xs k) := Lib.hid (by
                have e1 := HX.out
                have e3 := HL.out
                exact ⟨by omega, by omega, by rw [← e1]; exact hh⟩)
              clear hh
              have hS' := (HS.out.set_ x.toNat (.bool true))
              have hG' := ((HG.out.far (p := ⟨w2.heap.size + 1, x.toNat, none⟩) (by show w2.heap.size ≠ w2.heap.size + 1; omega) (.bool true)).set_ k (.int .i64 x))
              have hR' := ((HR.out.far (p := ⟨w2.heap.size + 1, x.toNat, none⟩) (by have := HW2.out; show w.heap.size ≠ w2.heap.size + 1; omega) (.bool true)).far (p := ⟨w2.heap.size, k, none⟩) (by have := HW2.out; show w.heap.size ≠ w2.heap.size; omega) (.int .i64 x))
              have HS2 := Lib.hid (hS'.far (p := ⟨w2.heap.size, k, none⟩) (by show w2.heap.size + 1 ≠ w2.heap.size; omega) (.int .i64 x))
              have HG2 := Lib.hid hG'
              have HR2 := Lib.hid hR'
              have HB2 := Lib.hid ((HB.out.setCell (p := ⟨w2.heap.size + 1, x.toNat, none⟩) (by have := HW2.out; show w.heap.size ≤ w2.heap.size + 1; omega) (.bool true)).setCell (p := ⟨w2.heap.size, k, none⟩) (by have := HW2.out; show w.heap.size ≤ w2.heap.size; omega) (.int .i64 x))
              have hcG : wr.cell? ⟨w2.heap.size, k, none⟩ = some (.int .i64 (nth (fillA xs k) k)) := (HG.out.cell _).trans (arrC_get _ k (by omega))
              have hfG := HG.out.frozen k
              clear hS' hG' hR'
              go_wp2
              go_roundw
              case rel =>
                have e1 := HX.out
                have e3 := HL.out
                refine ⟨k + 1, by omega, by go_num, HR2.out, ?_, ?_, HB2.out, fun j hj => ?_⟩
                · have := HG2.out
                  rw [e1, arrC_fill xs k (by omega), ← e1] at this
                  exact this
                · have := HS2.out
                  rw [e1, seenC_set xs k (by omega) (by omega), ← e1] at this
                  exact this
                · rcases Nat.lt_or_ge j k with h | h
                  · exact HA.out j h
                  · obtain rfl : j = k := by omega
                    exact HGd.out
              case measure => simp [intOf]; omega
      · have hkn : k = n := by omega
        subst hkn
        have hp : isPermB xs = true := isPermB_true ⟨by have := HL.out; omega, by have := HL.out; omega, by rw [HL.out]; exact HA.out⟩
        have HP := Lib.hid hp
        clear hp
        go_wp2_with (first | (refine wpList_load_blk rfl 107 (.tmp 4) rfl w2.heap.size rfl 107 (arrC (fillA xs k)) 7 3 HG.out Try.undArr Try.infoArr ?_) | (refine wpList_store_blk rfl 107 (.tmp 2) (.tmp 41) rfl w.heap.size (arrC (fillA xs k)) rfl rfl 107 zeroC HR.out Try.infoArr rfl (arrC_one _) ?_; intro w3 hR3 hg3))
        refine bodyPost_ret (results_blk_tmp Try.results97 _ _ _ _ _ 7 3 rfl hR3 Try.undArr Try.infoArr) rfl ?_
        exact ⟨.inl ⟨HP.out, rfl⟩, HB.out.grown hg3 HB.out.size (by rintro _ ⟨⟩; exact Nat.le_refl _)⟩
  · go_enter Try.func97, Try.ntmps97
    go_wp2_with (go_at_call 182; refine (isPermSize_no (by omega) _).mono ?_; rintro e w1 ⟨rfl, rfl⟩)
    go_returns
    refine ⟨.inr ⟨isPermB_false (fun hp => hsz ⟨by have := hp.1; omega, by have := hp.2.1; omega⟩), rfl⟩, by go_grown⟩

theorem arrayOf_yes {A : Option Addr} {n : Nat} (c : Nat) {xs : List Int} {w : World} (hs : SI w A n xs) (hn : n ≤ 1099511627776) (hp : isPermB xs = true) :
    Calls Try.prog 97 #[.slice A n c] w fun e w' => e = .returned (.tuple #[arr (fillA xs n), .bool true]) ∧ Below w.heap.size w w' := by
  refine (arrayOf_any A n c xs w hs hn).mono fun e w' ⟨he, hb⟩ => ⟨?_, hb⟩
  rcases he with ⟨_, he⟩ | ⟨h, _⟩
  · exact he
  · rw [hp] at h; cases h
theorem arrayOf_no {A : Option Addr} {n : Nat} (c : Nat) {xs : List Int} {w : World} (hs : SI w A n xs) (hn : n ≤ 1099511627776) (hp : isPermB xs = false) :
    Calls Try.prog 97 #[.slice A n c] w fun e w' => e = .returned (.tuple #[.agg zeroC, .bool false]) ∧ Below w.heap.size w w' := by
  refine (arrayOf_any A n c xs w hs hn).mono fun e w' ⟨he, hb⟩ => ⟨?_, hb⟩
  rcases he with ⟨h, _⟩ | ⟨_, he⟩
  · rw [hp] at h; cases h
  · exact he

set_option maxHeartbeats 1000000 in
theorem implIsPerm_any (A : Option Addr) (n c : Nat) (xs : List Int) (w : World) (hs : SI w A n xs) (hn : n ≤ 1099511627776) :
    Calls Try.prog 155 #[.slice A n c] w fun e w' => e = .returned (.bool (isPermB xs)) ∧ Below w.heap.size w w' := by
  cases hp : isPermB xs with
  | true =>
    have HP := Lib.hid hp
    clear hp
    go_enter Try.func155, Try.ntmps155
    go_wp2_with (go_at_call 97; refine (arrayOf_yes c hs hn HP.out).mono ?_; rintro e w1 ⟨rfl, hb1⟩)
    go_ret
    exact ⟨rfl, hb1.alloc hb1.size _⟩
  | false =>
    have HP := Lib.hid hp
    clear hp
    go_enter Try.func155, Try.ntmps155
    go_wp2_with (go_at_call 97; refine (arrayOf_no c hs hn HP.out).mono ?_; rintro e w1 ⟨rfl, hb1⟩)
    go_ret
    exact ⟨rfl, hb1.alloc hb1.size _⟩
end Go.Proofs.Ytjpoliibljjhnaa

/-
  Worlds that have only grown: draws, and new blocks behind the heap. Plain lemmas. No conditions.
-/


namespace Go.Proofs.Ytjpoliibljjhnaa
open Go.RowKit

/-- w' is w, some draws on, with new blocks behind. -/
def Grew (w w' : World) : Prop := ∃ q os, w' = Go.Sort.grow (w.drewN q) os
theorem Grew.refl (w : World) : Grew w w := ⟨0, #[], by simp [Go.Sort.grow, World.drewN]⟩
theorem Grew.drewN {w w' : World} (h : Grew w w') (n : Nat) : Grew w (w'.drewN n) := by
  obtain ⟨q, os, rfl⟩ := h
  exact ⟨q + n, os, by simp [Go.Sort.grow, World.drewN, Nat.add_assoc]⟩
theorem Grew.drew {w w' : World} (h : Grew w w') : Grew w w'.drew := by
  obtain ⟨q, os, rfl⟩ := h
  exact ⟨q + 1, os, by simp [Go.Sort.grow, World.drewN, World.drew, Nat.add_assoc]⟩
theorem Grew.alloc {w w' : World} (h : Grew w w') (o : Obj) : Grew w (w'.alloc o) := by
  obtain ⟨q, os, rfl⟩ := h
  exact ⟨q, os ++ #[o], by rw [Go.Sort.alloc_eq_grow, Go.Sort.grow_grow]⟩
theorem Grew.trans {w w' w'' : World} (h : Grew w w') (h' : Grew w' w'') : Grew w w'' := by
  obtain ⟨q, os, rfl⟩ := h
  obtain ⟨q', os', rfl⟩ := h'
  exact ⟨q + q', os ++ os', by simp [Go.Sort.grow, World.drewN, Nat.add_assoc, Array.append_assoc]⟩
theorem Grew.of_drawn {w w' : World} (h : Drawn w w') : Grew w w' := by
  obtain ⟨m, rfl⟩ := h
  exact ⟨m, #[], (Go.Sort.grow_empty _).symm⟩
theorem Grew.below {w w' : World} (h : Grew w w') : Below w.heap.size w w' := by
  obtain ⟨q, os, rfl⟩ := h
  exact ⟨rfl, rfl, rfl, by simp, fun k hk => Go.Sort.heap_grow_old (w.drewN q) os hk⟩
theorem Grew.size {w w' : World} (h : Grew w w') : w.heap.size ≤ w'.heap.size := h.below.size
end Go.Proofs.Ytjpoliibljjhnaa

/-
  Keys of exponents and comparison of terms, on both sides. No conditions but the exponents' bounds.
-/




namespace Go.Proofs.Ytjpoliibljjhnaa
open Go.RowKit

theorem nth_drop (e : List Int) (m k : Nat) : nth (e.drop m) k = nth e (m + k) := by simp [nth, List.getD]
theorem keyD {e : List Int} (hl : e.length = 7) (hs : smallE e = true) (m : Nat) : 0 ≤ key7 (e.drop m) ∧ key7 (e.drop m) ≤ 562949953421312 := by
  have h := key7_bound (e.drop m) (fun k hk => by rw [nth_drop]; exact smallE_nth hs (by simp at hk; omega))
  have h1 : (128 : Int) ^ (e.drop m).length ≤ 562949953421312 := by
    have : (e.drop m).length ≤ 7 := by simp; omega
    generalize (e.drop m).length = q at this
    match q, this with
    | 0, _ | 1, _ | 2, _ | 3, _ | 4, _ | 5, _ | 6, _ | 7, _ => decide
  omega
/-- What comparing two numbers answers. -/
def cmpI (x y : Int) : Int := if x < y then -1 else if y < x then 1 else 0
theorem isNaN_any (x : Int) (w : World) : Calls Try.prog 199 #[.int .i64 x] w fun r w' => r = .returned (.bool false) ∧ w' = w := by
  go_enter Try.func199, Try.ntmps199
  go_wp2
  go_ret
  exact ⟨rfl, rfl⟩
theorem compare_any (x y : Int) (w : World) : Calls Try.prog 119 #[.int .i64 x, .int .i64 y] w fun r w' => r = .returned (.int .i64 (cmpI x y)) ∧ w' = w := by
  unfold cmpI
  by_cases h1 : x < y
  · rw [if_pos h1]
    go_enter Try.func119, Try.ntmps119
    go_wp2_with (go_at_call 199; refine (isNaN_any _ _).mono ?_; rintro e w1 ⟨rfl, rfl⟩)
    go_ret
    exact ⟨rfl, rfl⟩
  · rw [if_neg h1]
    by_cases h2 : y < x
    · rw [if_pos h2]
      go_enter Try.func119, Try.ntmps119
      go_wp2_with (go_at_call 199; refine (isNaN_any _ _).mono ?_; rintro e w1 ⟨rfl, rfl⟩)
      go_ret
      exact ⟨rfl, rfl⟩
    · rw [if_neg h2]
      go_enter Try.func119, Try.ntmps119
      go_wp2_with (go_at_call 199; refine (isNaN_any _ _).mono ?_; rintro e w1 ⟨rfl, rfl⟩)
      go_ret
      exact ⟨rfl, rfl⟩

theorem compare_q (x y : Int) (w : World) : Calls Try.prog 119 #[.int .i64 x, .int .i64 y] w fun r w' => r = .returned (.int .i64 (cmpI x y)) ∧ Drawn w w' :=
  (compare_any x y w).mono fun _ _ ⟨he, hw⟩ => ⟨he, hw ▸ Drawn.refl _⟩
/-- What comparing two terms answers: the greater key stands first. -/
def cmpK (a b : List Int) : Int := if key7 b < key7 a then -1 else if key7 a < key7 b then 1 else 0
theorem smallE_P {e : List Int} (h : smallE e = true) : ∀ k, k < e.length → 0 ≤ nth e k ∧ nth e k ≤ 127 := fun _ hk => by have := smallE_nth h hk; omega
/-- What comparing two lists of exponents answers: from the last one, the greater one stands first. -/
def cmpX (xs ys : List Int) : Nat → Int
  | 0 => 0
  | m + 1 => if nth xs m = nth ys m then cmpX xs ys m else cmpI (nth ys m) (nth xs m)
theorem cmpX_eq {xs ys : List Int} {m : Nat} (h : nth xs m = nth ys m) : cmpX xs ys (m + 1) = cmpX xs ys m := by
  show (if nth xs m = nth ys m then cmpX xs ys m else cmpI (nth ys m) (nth xs m)) = _; rw [if_pos h]
theorem cmpX_ne {xs ys : List Int} {m : Nat} (h : ¬ nth xs m = nth ys m) : cmpX xs ys (m + 1) = cmpI (nth ys m) (nth xs m) := by
  show (if nth xs m = nth ys m then cmpX xs ys m else cmpI (nth ys m) (nth xs m)) = _; rw [if_neg h]
theorem cmpK_eq {a b : List Int} (hl : a.length = b.length) (h : ∀ j, j < a.length → nth a j = nth b j) : cmpK a b = 0 := by
  have e : a = b := by
    apply List.ext_getElem hl
    intro j h1 h2
    have := h j h1
    rwa [nth_get h1, nth_get h2] at this
  subst e
  unfold cmpK
  rw [if_neg (by omega), if_neg (by omega)]
theorem cmpK_ne {a b : List Int} {i : Nat} (ha : a.length = 7) (hb : b.length = 7) (sa : ∀ k, k < 7 → 0 ≤ nth a k ∧ nth a k ≤ 127) (sb : ∀ k, k < 7 → 0 ≤ nth b k ∧ nth b k ≤ 127) (hi : i < 7) (h : ∀ j, i < j → j < 7 → nth a j = nth b j) (hne : nth a i ≠ nth b i) :
    cmpK a b = cmpI (nth b i) (nth a i) := by
  unfold cmpK cmpI
  by_cases h1 : nth b i < nth a i
  · have := key7_lt b a i (by omega) (by rw [hb]; exact sb) (by rw [ha]; exact sa) (by omega) (fun j h1 h2 => (h j h1 (by omega)).symm) h1
    rw [if_pos this, if_pos h1]
  · have := key7_lt a b i (by omega) (by rw [ha]; exact sa) (by rw [hb]; exact sb) (by omega) (fun j h1 h2 => h j h1 (by omega)) (by omega)
    rw [if_neg (by omega), if_pos this, if_neg h1, if_pos (by omega)]
theorem cmpX_key {a b : List Int} (ha : a.length = 7) (hb : b.length = 7) (sa : ∀ k, k < 7 → 0 ≤ nth a k ∧ nth a k ≤ 127) (sb : ∀ k, k < 7 → 0 ≤ nth b k ∧ nth b k ≤ 127) :
    ∀ m, m ≤ 7 → (∀ j, m ≤ j → j < 7 → nth a j = nth b j) → cmpX a b m = cmpK a b
  | 0, _, h => (cmpK_eq (by omega) fun j hj => h j (by omega) (by omega)).symm
  | m + 1, hm, h => by
    by_cases e : nth a m = nth b m
    · rw [cmpX_eq e]
      exact cmpX_key ha hb sa sb m (by omega) fun j h1 h2 => by
        rcases Nat.lt_or_ge m j with h3 | h3
        · exact h j (by omega) h2
        · obtain rfl : j = m := by omega
          exact e
    · rw [cmpX_ne e]
      exact (cmpK_ne ha hb sa sb (by omega) (fun j h1 h2 => h j (by omega) h2) e).symm

theorem arrC_map {l : List Int} (hl : l.length = 7) : arrC l = (l.map (Value.int .i64)).toArray := by
  match l, hl with
  | [a, b, c, d, e, f, g], _ => rfl
theorem quiet_loadcell1 {C : World → Prop} {a : Act} {o : Oper} {K : Act → Prop} (ty : TypeId) (x : Operand) (ho : o.op = .load ty x) (b off : Nat) (hx : a.eval x = .pointer (some ⟨b, off, none⟩)) (v : Value)
    (hb : ∀ w, C w → w.cell? ⟨b, off, none⟩ = some v) (hu : ty = 22) (hk : K (a.put o.dst v)) : o.quiet Try.prog a C K :=
  ⟨_, fun w hw => by
    subst hu
    have hc := hb w hw
    have hl : (loadVar 22 ⟨b, off, none⟩).run Try.prog w = .ok v w := by
      simp [loadVar, isAgg, underlying, Try.underlying22, hc, Result.andThen]
    unfold Oper.quietAt execOp
    simp only [ho, hx, Instr.loadAt, Instr.sureAddr, Sem.run_bind, Sem.run_pure, Result.andThen_ok, hl]
    exact ⟨rfl, rfl⟩, hk⟩
/-- A load at a class of worlds, the load's own run given. -/
theorem quiet_loadrun {C : World → Prop} {a : Act} {o : Oper} {K : Act → Prop} (ty : TypeId) (x : Operand) (ho : o.op = .load ty x) (b off : Nat) (hx : a.eval x = .pointer (some ⟨b, off, none⟩)) (v : Value)
    (hb : ∀ w, C w → (loadVar ty ⟨b, off, none⟩).run Try.prog w = .ok v w) (hk : K (a.put o.dst v)) : o.quiet Try.prog a C K :=
  ⟨_, fun w hw => by
    have hl := hb w hw
    unfold Oper.quietAt execOp
    simp only [ho, hx, Instr.loadAt, Instr.sureAddr, Sem.run_bind, Sem.run_pure, Result.andThen_ok, hl]
    exact ⟨rfl, rfl⟩, hk⟩
end Go.Proofs.Ytjpoliibljjhnaa

/-
  The order of lists: number by number, what stands first is less. Conditions: lengths below 2^40.
-/

namespace Go.Proofs.Ytjpoliibljjhnaa
open Go.RowKit

/-- What comparing two lists answers. -/
def cmpL : List Int → List Int → Int
  | [], [] => 0
  | [], _ :: _ => -1
  | _ :: _, [] => 1
  | x :: xs, y :: ys => if x < y then -1 else if y < x then 1 else cmpL xs ys
theorem drop_nth {xs : List Int} {k : Nat} (h : k < xs.length) : xs.drop k = nth xs k :: xs.drop (k + 1) := by
  rw [List.drop_eq_getElem_cons h, nth_get h]
theorem cmpL_at {xs ys : List Int} {k : Nat} (hx : k < xs.length) (hy : k < ys.length) : cmpL (xs.drop k) (ys.drop k) = if nth xs k < nth ys k then -1 else if nth ys k < nth xs k then 1 else cmpL (xs.drop (k + 1)) (ys.drop (k + 1)) := by
  rw [drop_nth hx, drop_nth hy]; rfl
theorem cmpL_short {xs ys : List Int} {k : Nat} (hx : k = xs.length) (hy : k < ys.length) : cmpL (xs.drop k) (ys.drop k) = -1 := by
  rw [drop_nth hy, List.drop_of_length_le (by omega)]; rfl
theorem cmpL_long {xs ys : List Int} {k : Nat} (hx : k < xs.length) (hy : k = ys.length) : cmpL (xs.drop k) (ys.drop k) = 1 := by
  rw [drop_nth hx, List.drop_of_length_le (by omega : ys.length ≤ k)]; rfl
theorem cmpL_end {xs ys : List Int} {k : Nat} (hx : k = xs.length) (hy : k = ys.length) : cmpL (xs.drop k) (ys.drop k) = 0 := by
  rw [List.drop_of_length_le (by omega), List.drop_of_length_le (by omega)]; rfl
def lessL (xs ys : List Int) : Bool := decide (cmpL xs ys < 0)
theorem lessL_yes {xs ys : List Int} (h : cmpL xs ys = -1) : lessL xs ys = true := by simp [lessL, h]
theorem lessL_no {xs ys : List Int} (h : 0 ≤ cmpL xs ys) : lessL xs ys = false := by simp [lessL]; exact h

set_option maxHeartbeats 1600000 in
theorem l1Less_any (A A2 : Option Addr) (n c n2 c2 : Nat) (xs ys : List Int) (w : World) (hs : SI w A n xs) (hs2 : SI w A2 n2 ys) (hn : n ≤ 1099511627776) (hn2 : n2 ≤ 1099511627776) :
    Calls Try.prog 186 #[.slice A n c, .slice A2 n2 c2] w fun e w' => e = .returned (.bool (lessL xs ys)) ∧ Drawn w w' := by
  have HL := Lib.hid (And.intro hs.1 hs2.1)
  go_enter Try.func186, Try.ntmps186
  go_wp2
  go_loopw [5] (fun iv wr => ∃ k : Nat, k ≤ n ∧ k ≤ n2 ∧ iv = .int .i64 k ∧ Drawn w wr ∧ cmpL xs ys = cmpL (xs.drop k) (ys.drop k))
    (fun iv _ => n - (intOf iv).toNat)
  case atStart => exact ⟨0, Nat.zero_le _, Nat.zero_le _, rfl, Drawn.refl _, by simp⟩
  case round =>
    obtain ⟨k, hk, hk2, rfl, hD, hq⟩ := hrel
    have HD := Lib.hid hD
    have HQ := Lib.hid hq
    have h1 := hD.si hs
    have h2 := hD.si hs2
    clear hD hq hs hs2
    by_cases hlt : k < n
    · have hlI : (k : Int) < (n : Int) := by omega
      by_cases hlt2 : k < n2
      · have hlI2 : (k : Int) < (n2 : Int) := by omega
        obtain ⟨b, o, rfl, _, hc⟩ := h1.at_ (by omega)
        obtain ⟨b2, o2, rfl, _, hc2⟩ := h2.at_ (by omega)
        have hx := hc k hlt
        have hy := hc2 k hlt2
        have HS := cmpL_at (xs := xs) (ys := ys) (k := k) (by have := HL.out; omega) (by have := HL.out; omega)
        obtain ⟨x, hx0⟩ : ∃ x, x = nth xs k := ⟨_, rfl⟩
        obtain ⟨y, hy0⟩ : ∃ y, y = nth ys k := ⟨_, rfl⟩
        rw [← hx0] at hx HS
        rw [← hy0] at hy HS
        rw [← HQ.out] at HS
        have HS := Lib.hid HS
        clear h1 h2 hc hc2 hx0 hy0
        by_cases hxy : x = y
        · subst hxy
          have HS2 := Lib.hid (HS.out.trans ((if_neg (by omega)).trans (if_neg (by omega))))
          go_wp2_with fail
          go_quiet (fail)
          go_wp2
          go_roundw
          case rel => exact ⟨k + 1, by omega, by omega, by go_num, HD.out.drewN _, HS2.out⟩
          case measure => simp [intOf]; omega
        · have hne : (x != y) = true := by simpa using hxy
          by_cases hlt3 : x < y
          · have HF := Lib.hid (lessL_yes (HS.out.trans (if_pos hlt3)))
            go_wp2_with fail
            go_quiet (fail)
            go_wp2_with fail
            go_quiet (fail)
            go_wp2
            go_ret
            exact ⟨ret_bool HF.out.symm, by first | exact (HD.out.drewN _).drewN _ | exact HD.out.drewN _⟩
          · have HF := Lib.hid (lessL_no (Int.le_of_eq (HS.out.trans ((if_neg hlt3).trans (if_pos (by omega)))).symm |> Int.le_trans (by decide)))
            go_wp2_with fail
            go_quiet (fail)
            go_wp2_with fail
            have hlt4 : ¬ x < y := by omega
            go_quiet (fail)
            go_wp2
            go_ret
            exact ⟨ret_bool HF.out.symm, by first | exact (HD.out.drewN _).drewN _ | exact HD.out.drewN _⟩
      · have hk2n : k = n2 := by omega
        have hlI2 : ¬ (k : Int) < (n2 : Int) := by omega
        have hn2n : ¬ (n : Int) < (n2 : Int) := by omega
        have HF := Lib.hid (lessL_no (by rw [HQ.out, cmpL_long (by have := HL.out; omega) (by have := HL.out; omega)]; decide))
        clear h1 h2
        go_wp2
        go_ret
        exact ⟨ret_bool HF.out.symm, HD.out⟩
    · have hkn : k = n := by omega
      have hlI : ¬ (k : Int) < (n : Int) := by omega
      clear h1 h2
      by_cases hlt2 : n < n2
      · have hn2n : (n : Int) < (n2 : Int) := by omega
        have HF := Lib.hid (lessL_yes (by rw [HQ.out, cmpL_short (by have := HL.out; omega) (by have := HL.out; omega)]))
        go_wp2
        go_ret
        exact ⟨ret_bool HF.out.symm, HD.out⟩
      · have hn2n : ¬ (n : Int) < (n2 : Int) := by omega
        have HF := Lib.hid (lessL_no (by rw [HQ.out, cmpL_end (by have := HL.out; omega) (by have := HL.out; omega)]; decide))
        go_wp2
        go_ret
        exact ⟨ret_bool HF.out.symm, HD.out⟩

set_option maxHeartbeats 1600000 in
theorem sliceCompare_any (A A2 : Option Addr) (n c n2 c2 : Nat) (xs ys : List Int) (w : World) (hs : SI w A n xs) (hs2 : SI w A2 n2 ys) (hn : n ≤ 1099511627776) (hn2 : n2 ≤ 1099511627776) :
    Calls Try.prog 102 #[.slice A n c, .slice A2 n2 c2] w fun e w' => e = .returned (.int .i64 (cmpL xs ys)) ∧ Drawn w w' := by
  have HL := Lib.hid (And.intro hs.1 hs2.1)
  go_enter Try.func102, Try.ntmps102
  go_wp2
  go_loopw [11] (fun iv wr => ∃ k : Nat, k ≤ n ∧ k ≤ n2 ∧ iv = .int .i64 k ∧ Drawn w wr ∧ cmpL xs ys = cmpL (xs.drop k) (ys.drop k))
    (fun iv _ => n - (intOf iv).toNat)
  case atStart => exact ⟨0, Nat.zero_le _, Nat.zero_le _, rfl, Drawn.refl _, by simp⟩
  case round =>
    obtain ⟨k, hk, hk2, rfl, hD, hq⟩ := hrel
    have HD := Lib.hid hD
    have HQ := Lib.hid hq
    have h1 := hD.si hs
    have h2 := hD.si hs2
    clear hD hq hs hs2
    by_cases hlt : k < n
    · have hlI : (k : Int) < (n : Int) := by omega
      obtain ⟨b, o, rfl, _, hc⟩ := h1.at_ (by omega)
      have hx := hc k hlt
      obtain ⟨x, hx0⟩ : ∃ x, x = nth xs k := ⟨_, rfl⟩
      rw [← hx0] at hx
      by_cases hlt2 : k < n2
      · have hlI2 : (k : Int) < (n2 : Int) := by omega
        obtain ⟨b2, o2, rfl, _, hc2⟩ := h2.at_ (by omega)
        have hy := hc2 k hlt2
        have HS := cmpL_at (xs := xs) (ys := ys) (k := k) (by have := HL.out; omega) (by have := HL.out; omega)
        obtain ⟨y, hy0⟩ : ∃ y, y = nth ys k := ⟨_, rfl⟩
        rw [← hx0] at HS
        rw [← hy0] at hy HS
        rw [← HQ.out] at HS
        have HS := Lib.hid HS
        have HC := Lib.hid (fun w => compare_any x y w)
        clear h1 h2 hc hc2 hx0 hy0
        by_cases hlt3 : x < y
        · have HF := Lib.hid (HS.out.trans (if_pos hlt3))
          have HC2 := HC.out
          rw [show cmpI x y = -1 from if_pos hlt3] at HC2
          have HC3 := Lib.hid HC2
          clear HC2 HC
          go_wp2_with (go_at_call 119; refine (HC3.out _).mono ?_; rintro e w1 ⟨rfl, rfl⟩)
          go_ret
          exact ⟨by rw [HF.out]; try rfl, HD.out⟩
        · by_cases hlt4 : y < x
          · have HF := Lib.hid (HS.out.trans ((if_neg hlt3).trans (if_pos hlt4)))
            have HC2 := HC.out
            rw [show cmpI x y = 1 from (if_neg hlt3).trans (if_pos hlt4)] at HC2
            have HC3 := Lib.hid HC2
            clear HC2 HC
            go_wp2_with (go_at_call 119; refine (HC3.out _).mono ?_; rintro e w1 ⟨rfl, rfl⟩)
            go_ret
            exact ⟨by rw [HF.out]; try rfl, HD.out⟩
          · have HF := Lib.hid (HS.out.trans ((if_neg hlt3).trans (if_neg hlt4)))
            have HC2 := HC.out
            rw [show cmpI x y = 0 from (if_neg hlt3).trans (if_neg hlt4)] at HC2
            have HC3 := Lib.hid HC2
            clear HC2 HC
            go_wp2_with (go_at_call 119; refine (HC3.out _).mono ?_; rintro e w1 ⟨rfl, rfl⟩)
            go_roundw
            case rel => exact ⟨k + 1, by omega, by omega, by go_num, HD.out, HF.out⟩
            case measure => simp [intOf]; omega
      · have hk2n : k = n2 := by omega
        subst hk2n
        have HF : Hid (cmpL xs ys = 1) := Lib.hid (by rw [HQ.out, cmpL_long (by have := HL.out; omega) (by have := HL.out; omega)])
        clear h1 h2 hc hx0
        go_wp2
        go_ret
        exact ⟨by rw [HF.out]; try rfl, HD.out⟩
    · have hkn : k = n := by omega
      have hlI : ¬ (k : Int) < (n : Int) := by omega
      clear h1 h2
      by_cases hlt2 : n < n2
      · have hn2n : (n : Int) < (n2 : Int) := by omega
        have HF : Hid (cmpL xs ys = -1) := Lib.hid (by rw [HQ.out, cmpL_short (by have := HL.out; omega) (by have := HL.out; omega)])
        go_wp2
        go_ret
        exact ⟨by rw [HF.out]; try rfl, HD.out⟩
      · have hn2n : ¬ (n : Int) < (n2 : Int) := by omega
        have HF : Hid (cmpL xs ys = 0) := Lib.hid (by rw [HQ.out, cmpL_end (by have := HL.out; omega) (by have := HL.out; omega)])
        go_wp2
        go_ret
        exact ⟨by rw [HF.out]; try rfl, HD.out⟩
end Go.Proofs.Ytjpoliibljjhnaa

/-
  Slices of slices of numbers: as they read, and as a call's own; a list more behind them; marks. Conditions: as each lemma says.
-/


namespace Go.Proofs.Ytjpoliibljjhnaa
open Go.RowKit

def li (ls : List (List Int)) (k : Nat) : List Int := ls.getD k []
theorem li_get {ls : List (List Int)} {k : Nat} (h : k < ls.length) : li ls k = ls[k] := by simp [li, List.getD, h]
theorem li_app_lt {ls us : List (List Int)} {k : Nat} (h : k < ls.length) : li (ls ++ us) k = li ls k := by simp [li, List.getD, List.getElem?_append, h]
theorem li_app_at {ls : List (List Int)} {t : List Int} : li (ls ++ [t]) ls.length = t := by simp [li, List.getD]
theorem li_set {ls : List (List Int)} {k j : Nat} (hk : k < ls.length) (t : List Int) : li (ls.set k t) j = if j = k then t else li ls j := by
  unfold li
  rw [List.getD_eq_getElem?_getD, List.getD_eq_getElem?_getD, List.getElem?_set]
  by_cases e : k = j
  · subst e; simp [hk]
  · rw [if_neg e, if_neg (fun h => e h.symm)]
theorem li_ext {ls us : List (List Int)} (hl : ls.length = us.length) (h : ∀ j, j < ls.length → li ls j = li us j) : ls = us := by
  apply List.ext_getElem hl
  intro j h1 h2
  have := h j h1
  rwa [li_get h1, li_get h2] at this
/-- The slice (A, n, ..) reads as these lists. -/
def LS (w : World) (A : Option Addr) (n : Nat) (ls : List (List Int)) : Prop :=
  ls.length = n ∧ (0 < n → ∃ b o, A = some ⟨b, o, none⟩ ∧ b < w.heap.size ∧ ∀ k, k < n → ∃ A' n' c', w.cell? ⟨b, o + k, none⟩ = some (.slice A' n' c') ∧
    SI w A' n' (li ls k) ∧ n' ≤ c' ∧ (A' = none → n' = 0 ∧ c' = 0))
section
variable {w w' : World} {A : Option Addr} {n : Nat} {ls : List (List Int)}
theorem LS.nil (w : World) (A : Option Addr) : LS w A 0 [] := ⟨rfl, fun h => absurd h (by omega)⟩
theorem LS.at_ (h : LS w A n ls) {k : Nat} (hk : k < n) : ∃ b o A' n' c', A = some ⟨b, o, none⟩ ∧ b < w.heap.size ∧ w.cell? ⟨b, o + k, none⟩ = some (.slice A' n' c') ∧
    SI w A' n' (li ls k) ∧ n' ≤ c' ∧ (A' = none → n' = 0 ∧ c' = 0) := by
  obtain ⟨b, o, e, hb, hc⟩ := h.2 (by omega)
  obtain ⟨A', n', c', h1⟩ := hc k hk
  exact ⟨b, o, A', n', c', e, hb, h1⟩
theorem LS.below {B : Nat} (h : LS w A n ls) (hb : Below B w w') (hB : w.heap.size ≤ B) : LS w' A n ls := by
  refine ⟨h.1, fun hn => ?_⟩
  obtain ⟨b, o, e, hlt, hc⟩ := h.2 hn
  have hsz := hb.size
  refine ⟨b, o, e, by omega, fun k hk => ?_⟩
  obtain ⟨A', n', c', h1, h2, h3⟩ := hc k hk
  exact ⟨A', n', c', by rw [Below.cell hb (p := ⟨b, o + k, none⟩) (by show b < B; omega)]; exact h1, h2.below hb hB, h3⟩
theorem LS.drawn (h : LS w A n ls) (hd : Drawn w w') : LS w' A n ls := by obtain ⟨m, rfl⟩ := hd; exact h
end
/-- The cells of n lists. -/
def heads (n : Nat) (E : Nat → Sv) : List Value := (List.range n).map fun k => sv (E k)
theorem heads_len (n : Nat) (E : Nat → Sv) : (heads n E).length = n := by simp [heads]
theorem heads_get {n : Nat} (E : Nat → Sv) {k : Nat} (h : k < n) : (heads n E)[k]? = some (sv (E k)) := by simp [heads, h]
theorem heads_congr {n : Nat} {E F : Nat → Sv} (h : ∀ k, k < n → E k = F k) : heads n E = heads n F := by
  unfold heads
  apply List.map_congr_left
  intro k hk
  rw [h k (List.mem_range.1 hk)]
theorem heads_app (n : Nat) (E : Nat → Sv) (a : Sv) : heads n E ++ [sv a] = heads (n + 1) (fun j => if j = n then a else E j) := by
  unfold heads
  rw [List.range_succ, List.map_append]
  congr 1
  · apply List.map_congr_left
    intro k hk
    have := List.mem_range.1 hk
    show sv (E k) = sv (if k = n then a else E k)
    rw [if_neg (by omega)]
  · simp
theorem heads_set {n : Nat} (E : Nat → Sv) {k : Nat} (_h : k < n) (a : Sv) : (heads n E).set k (sv a) = heads n (fun j => if j = k then a else E j) := by
  apply List.ext_getElem?
  intro j
  rw [List.getElem?_set]
  by_cases hj : j < n
  · by_cases e : k = j
    · subst e; rw [if_pos rfl, heads_len, if_pos hj, heads_get _ hj, if_pos rfl]
    · rw [if_neg e, heads_get _ hj, heads_get _ hj, if_neg (fun h => e h.symm)]
  · have h1 : (heads n E)[j]? = none := List.getElem?_eq_none (by rw [heads_len]; omega)
    have h2 : (heads n (fun j => if j = k then a else E j))[j]? = none := List.getElem?_eq_none (by rw [heads_len]; omega)
    rw [h1, h2]
    by_cases e : k = j
    · subst e; rw [if_pos rfl, heads_len, if_neg hj]
    · rw [if_neg e]
/-- The blocks of the lists named. -/
def OwnLE (E : Nat → Sv) (w : World) (lo hi : Nat) (A : Option Addr) (n c : Nat) (ls : List (List Int)) : Prop :=
  ls.length = n ∧ w.ownsRow lo 22 1 (.slice A n c) n (heads n E) ∧ (∀ k, (Value.slice A n c).ownBlock = some k → k < hi) ∧
    (∀ j, j < n → Own w lo hi (E j).1 (E j).2.1 (E j).2.2 (li ls j)) ∧ (∀ j g, j < n → (sv (E j)).ownBlock = some g → (Value.slice A n c).ownBlock ≠ some g) ∧
    (∀ i j g, i < j → j < n → (sv (E i)).ownBlock = some g → (sv (E j)).ownBlock ≠ some g)
/-- The slice (A, n, c) holds these lists: its block, and a block a list, all the call's own between lo and hi, no two of them one. -/
def OwnL (w : World) (lo hi : Nat) (A : Option Addr) (n c : Nat) (ls : List (List Int)) : Prop := ∃ E, OwnLE E w lo hi A n c ls
section
variable {w w' : World} {lo hi n c : Nat} {A : Option Addr} {ls : List (List Int)} {E : Nat → Sv}
theorem OwnL.len (h : OwnL w lo hi A n c ls) : ls.length = n := by obtain ⟨_, h1, _⟩ := h; exact h1
theorem OwnL.nil (w : World) (lo hi : Nat) : OwnL w lo hi none 0 0 [] :=
  ⟨fun _ => (none, 0, 0), rfl, by simpa [heads] using World.ownsRow_nil _ _ _ _, fun k hk => by simp [Value.ownBlock] at hk, fun j hj => absurd hj (by omega), fun j g hj => absurd hj (by omega), fun i j g _ hj => absurd hj (by omega)⟩
theorem OwnL.empty (w : World) : OwnL (w.alloc (.cells #[] 22)) w.heap.size (w.heap.size + 1) (some ⟨w.heap.size, 0, none⟩) 0 0 [] :=
  ⟨fun _ => (none, 0, 0), rfl, World.ownsRow_lit w #[] 0 (Nat.le_refl _) (Nat.zero_le _) rfl, fun k hk => by simp [Value.ownBlock] at hk; omega, fun j hj => absurd hj (by omega), fun j g hj => absurd hj (by omega), fun i j g _ hj => absurd hj (by omega)⟩
theorem OwnL.place (h : OwnL w lo hi A n c ls) (hn : 0 < n) : ∃ g, A = some ⟨g, 0, none⟩ ∧ lo ≤ g ∧ g < hi := by
  obtain ⟨E, _, ho, hh, _⟩ := h
  obtain ⟨g, cap, e, h1, _⟩ := ho.form hn
  have hA : A = some ⟨g, 0, none⟩ := by injection e
  subst hA
  exact ⟨g, rfl, h1, hh g rfl⟩
theorem Own.nilcapL {xs : List Int} (h : Own w lo hi none n c xs) : n = 0 ∧ c = 0 := by
  rcases h.1.2 with ⟨e, h0⟩ | ⟨g, cap, cur, e, _⟩
  · injection e with _ _ e3; exact ⟨h0, e3⟩
  · injection e with e1; cases e1
theorem OwnL.si (h : OwnL w lo hi A n c ls) : LS w A n ls := by
  refine ⟨h.len, fun hn => ?_⟩
  obtain ⟨g, rfl, _, _⟩ := h.place hn
  obtain ⟨E, hl, ho, hh, he, _⟩ := h
  refine ⟨g, 0, rfl, ?_, fun k hk => ?_⟩
  · obtain ⟨g', cap, e, _, h2⟩ := ho.form hn
    injection e with e1; injection e1 with e1; injection e1 with e1
    subst e1; exact h2
  · refine ⟨(E k).1, (E k).2.1, (E k).2.2, ?_, (he k hk).si, (he k hk).cap, ?_⟩
    · rw [Nat.zero_add, ho.cellAt k (by omega), heads_get _ hk]; rfl
    · intro e
      have := he k hk
      rw [e] at this
      exact this.nilcapL
theorem OwnLE.below {B : Nat} (h : OwnLE E w lo hi A n c ls) (hb : Below B w w') (hB : hi ≤ B) : OwnLE E w' lo hi A n c ls := by
  obtain ⟨h1, h2, h3, h4, h5, h6⟩ := h
  refine ⟨h1, ⟨h2.1, ?_⟩, h3, fun j hj => (h4 j hj).below hb hB, h5, h6⟩
  rcases h2.2 with hn | ⟨g, cap, cur, e, hl, hg, rest⟩
  · exact .inl hn
  · have hlt := h3 g (by rw [e]; rfl)
    exact .inr ⟨g, cap, cur, e, hl, (hb.block g (by omega)).trans hg, rest⟩
theorem OwnL.below {B : Nat} (h : OwnL w lo hi A n c ls) (hb : Below B w w') (hB : hi ≤ B) : OwnL w' lo hi A n c ls := by
  obtain ⟨E, h⟩ := h
  exact ⟨E, h.below hb hB⟩
theorem OwnL.drawn (h : OwnL w lo hi A n c ls) (hd : Drawn w w') : OwnL w' lo hi A n c ls := h.below (hd.below hi) (Nat.le_refl _)
theorem OwnL.cap (h : OwnL w lo hi A n c ls) : n ≤ c := by
  obtain ⟨E, _, h2, _⟩ := h
  rcases h2.2 with ⟨e, h0⟩ | ⟨g, cap, cur, e, _, _, hc, _⟩
  · omega
  · injection e with _ _ e3; omega
theorem OwnL.wide {lo' hi' : Nat} (h : OwnL w lo hi A n c ls) (h1 : lo' ≤ lo) (h2 : hi ≤ hi') : OwnL w lo' hi' A n c ls := by
  obtain ⟨E, e1, e2, e3, e4, e5, e6⟩ := h
  refine ⟨E, e1, ⟨e2.1, ?_⟩, fun k hk => Nat.lt_of_lt_of_le (e3 k hk) h2, fun j hj => (e4 j hj).wide h1 h2, e5, e6⟩
  rcases e2.2 with hn | ⟨g, cap, cur, e, hl, rest⟩
  · exact .inl hn
  · exact .inr ⟨g, cap, cur, e, Nat.le_trans h1 hl, rest⟩
theorem OwnL.within {lo' hi' : Nat} (h : OwnL w lo hi A n c ls) (hw : Within lo' hi' w w') (hd : hi ≤ lo' ∨ hi' ≤ lo) : OwnL w' lo hi A n c ls := by
  obtain ⟨E, h1, h2, h3, h4, h5, h6⟩ := h
  refine ⟨E, h1, ⟨h2.1, ?_⟩, h3, fun j hj => (h4 j hj).within hw hd, h5, h6⟩
  rcases h2.2 with hn | ⟨g, cap, cur, e, hl, hg, rest⟩
  · exact .inl hn
  · have hlt := h3 g (by rw [e]; rfl)
    have hsz := (h2.lt g (by rw [e]; rfl)).2
    exact .inr ⟨g, cap, cur, e, hl, (hw.2.2.2.2 g hsz (by omega)).trans hg, rest⟩
/-- A list more behind them. -/
theorem OwnLE.app (h : OwnLE E w lo hi A n c ls) {lo2 hi2 n2 c2 : Nat} {A2 : Option Addr} {xs : List Int} (hx : Own w lo2 hi2 A2 n2 c2 xs)
    (hlo : lo ≤ lo2) (hd : hi ≤ lo2) {H g cap : Nat} (hH : hi2 ≤ H) (hHh : hi ≤ H) (hHw : H ≤ w.heap.size)
    (ho : w'.ownsRow lo 22 1 (.slice (some ⟨g, 0, none⟩) (n + 1) cap) (n + 1) (heads n E ++ [.slice A2 n2 c2]))
    (hg : w.grownBy w' (Value.slice A n c).ownBlock) (hat : (Value.slice A n c).ownBlock = some g ∨ H ≤ g) (hlt : g < w'.heap.size) : OwnL w' lo w'.heap.size (some ⟨g, 0, none⟩) (n + 1) cap (ls ++ [xs]) := by
  obtain ⟨h1, h2, h3, h4, h5, h6⟩ := h
  have hsz := hg.size
  have eh : heads n E ++ [Value.slice A2 n2 c2] = heads (n + 1) (fun j => if j = n then (A2, n2, c2) else E j) := heads_app n E (A2, n2, c2)
  rw [eh] at ho
  have eE : ∀ j, j < n → (if j = n then ((A2, n2, c2) : Sv) else E j) = E j := fun j hj => by rw [if_neg (by omega)]
  have eN : (if n = n then ((A2, n2, c2) : Sv) else E n) = (A2, n2, c2) := if_pos rfl
  refine ⟨fun j => if j = n then (A2, n2, c2) else E j, by simp [h1], ho, ?_, ?_, ?_, ?_⟩
  · intro k hk
    simp [Value.ownBlock] at hk
    omega
  · intro j hj
    by_cases e : j = n
    · subst e
      have := @li_app_at ls xs
      rw [h1] at this
      rw [this]
      show Own w' lo w'.heap.size (if j = j then ((A2, n2, c2) : Sv) else E j).1 (if j = j then ((A2, n2, c2) : Sv) else E j).2.1 (if j = j then ((A2, n2, c2) : Sv) else E j).2.2 xs
      rw [eN]
      exact (hx.kept hg (fun b hb e => by have h7 := hx.lt b hb; have h8 := h3 b e; omega)).wide hlo (by omega)
    · rw [li_app_lt (by rw [h1]; omega)]
      show Own w' lo w'.heap.size (if j = n then ((A2, n2, c2) : Sv) else E j).1 (if j = n then ((A2, n2, c2) : Sv) else E j).2.1 (if j = n then ((A2, n2, c2) : Sv) else E j).2.2 _
      rw [eE j (by omega)]
      exact ((h4 j (by omega)).kept hg (fun b hb e => h5 j b (by omega) hb e)).wide (Nat.le_refl _) (by omega)
  · intro j b hj hb e2
    have hbg : b = g := by simp [Value.ownBlock] at e2; omega
    subst hbg
    have hb' : (sv (if j = n then ((A2, n2, c2) : Sv) else E j)).ownBlock = some b := hb
    by_cases e : j = n
    · subst e
      rw [eN] at hb'
      have h7 := hx.lt b hb'
      rcases hat with ha | ha
      · have := h3 b ha; omega
      · omega
    · rw [eE j (by omega)] at hb'
      rcases hat with ha | ha
      · exact h5 j b (by omega) hb' ha
      · have := (h4 j (by omega)).lt b hb'; omega
  · intro i j b hij hj hb hb2
    have hb' : (sv (if i = n then ((A2, n2, c2) : Sv) else E i)).ownBlock = some b := hb
    have hb2' : (sv (if j = n then ((A2, n2, c2) : Sv) else E j)).ownBlock = some b := hb2
    rw [eE i (by omega)] at hb'
    by_cases e : j = n
    · subst e
      rw [eN] at hb2'
      have h7 := hx.lt b hb2'
      have h8 := (h4 i (by omega)).lt b hb'
      omega
    · rw [eE j (by omega)] at hb2'
      exact h6 i j b hij (by omega) hb' hb2'
/-- One of the lists, at its place: it may be turned. -/
theorem OwnL.item {g : Nat} (h : OwnL w lo hi (some ⟨g, 0, none⟩) n c ls) {k : Nat} (hk : k < n) :
    ∃ A' n' c', w.cell? ⟨g, k, none⟩ = some (.slice A' n' c') ∧ (∀ j, w.frozen? ⟨g, j, none⟩ = false) ∧ Own w lo hi A' n' c' (li ls k) ∧
      ∀ w' ys, Own w' lo hi A' n' c' ys → w.grownBy w' (Value.slice A' n' c').ownBlock → OwnL w' lo hi (some ⟨g, 0, none⟩) n c (ls.set k ys) := by
  obtain ⟨E, hl, ho, hh, he, hne, hdd⟩ := h
  refine ⟨(E k).1, (E k).2.1, (E k).2.2, ?_, fun j => ho.frozenAt j, he k hk, ?_⟩
  · rw [ho.cellAt k (by omega), heads_get _ hk]; rfl
  · intro w' ys hy hg
    refine ⟨E, by simpa using hl, ho.kept hg ?_, hh, fun j hj => ?_, hne, hdd⟩
    · cases hb : (Value.slice (E k).1 (E k).2.1 (E k).2.2).ownBlock with
      | none => right; intro e; cases e
      | some b => right; intro e; exact hne k b hk hb e
    · rw [li_set (by omega)]
      by_cases e : j = k
      · subst e; rw [if_pos rfl]; exact hy
      · rw [if_neg e]
        refine (he j hj).kept hg (fun b hb e2 => ?_)
        rcases Nat.lt_or_gt_of_ne e with h | h
        · exact hdd j k b h hk hb e2
        · exact hdd k j b h hj e2 hb
end
/-- What a call that makes a slice of lists hands back. -/
def FreshL (w w' : World) (e : Ending) (ls : List (List Int)) : Prop :=
  ∃ A n c, e = .returned (.slice A n c) ∧ OwnL w' w.heap.size w'.heap.size A n c ls ∧ Below w.heap.size w w'
theorem FreshL.nil_ret {w w' : World} (h : Below w.heap.size w w') : FreshL w w' (.returned (.slice none 0 0)) [] := ⟨none, 0, 0, rfl, OwnL.nil _ _ _, h⟩
end Go.Proofs.Ytjpoliibljjhnaa

/-
  Lists of lists in ascending order without a list twice: two with the same members are one; a list put in. No conditions.
-/


namespace Go.Proofs.Ytjpoliibljjhnaa
open Go.RowKit

theorem cmpL_self : ∀ xs : List Int, cmpL xs xs = 0
  | [] => rfl
  | x :: xs => by show (if x < x then -1 else if x < x then 1 else cmpL xs xs) = 0; rw [if_neg (by omega), if_neg (by omega)]; exact cmpL_self xs
theorem cmpL_swap : ∀ xs ys : List Int, cmpL ys xs = - cmpL xs ys
  | [], [] => rfl
  | [], _ :: _ => rfl
  | _ :: _, [] => rfl
  | x :: xs, y :: ys => by
    show (if y < x then -1 else if x < y then 1 else cmpL ys xs) = - (if x < y then -1 else if y < x then 1 else cmpL xs ys)
    by_cases h1 : x < y
    · rw [if_neg (by omega), if_pos h1, if_pos h1]; rfl
    · by_cases h2 : y < x
      · rw [if_pos h2, if_neg h1, if_pos h2]
      · rw [if_neg h2, if_neg h1, if_neg h1, if_neg h2]; exact cmpL_swap xs ys
theorem cmpL_eq : ∀ {xs ys : List Int}, cmpL xs ys = 0 → xs = ys
  | [], [], _ => rfl
  | [], _ :: _, h => by simp [cmpL] at h
  | _ :: _, [], h => by simp [cmpL] at h
  | x :: xs, y :: ys, h => by
    unfold cmpL at h
    by_cases h1 : x < y
    · rw [if_pos h1] at h; omega
    · by_cases h2 : y < x
      · rw [if_neg h1, if_pos h2] at h; omega
      · rw [if_neg h1, if_neg h2] at h
        rw [cmpL_eq h, show x = y by omega]
theorem cmpL_tr : ∀ {xs ys zs : List Int}, cmpL xs ys < 0 → cmpL ys zs < 0 → cmpL xs zs < 0
  | [], [], _, h, _ => by simp [cmpL] at h
  | [], _ :: _, [], _, h => by simp [cmpL] at h
  | [], _ :: _, _ :: _, _, _ => by simp [cmpL]
  | _ :: _, [], _, h, _ => by simp [cmpL] at h
  | _ :: _, _ :: _, [], _, h => by simp [cmpL] at h
  | x :: xs, y :: ys, z :: zs, h1, h2 => by
    unfold cmpL at h1 h2 ⊢
    by_cases a1 : x < y
    · by_cases b1 : y < z
      · rw [if_pos (by omega)]; omega
      · by_cases b2 : z < y
        · rw [if_neg b1, if_pos b2] at h2; omega
        · rw [if_pos (by omega)]; omega
    · by_cases a2 : y < x
      · rw [if_neg a1, if_pos a2] at h1; omega
      · rw [if_neg a1, if_neg a2] at h1
        by_cases b1 : y < z
        · rw [if_pos (by omega)]; omega
        · by_cases b2 : z < y
          · rw [if_neg b1, if_pos b2] at h2; omega
          · rw [if_neg b1, if_neg b2] at h2
            rw [if_neg (by omega), if_neg (by omega)]
            exact cmpL_tr h1 h2
theorem lessL_iff {xs ys : List Int} : lessL xs ys = true ↔ cmpL xs ys < 0 := by simp [lessL]
theorem lessL_nf {xs ys : List Int} : lessL xs ys = false ↔ 0 ≤ cmpL xs ys := by simp [lessL]
theorem lessL_irr (xs : List Int) : lessL xs xs = false := by rw [lessL_nf, cmpL_self]; exact Int.le_refl _
theorem lessL_tr {xs ys zs : List Int} (h1 : lessL xs ys = true) (h2 : lessL ys zs = true) : lessL xs zs = true := lessL_iff.2 (cmpL_tr (lessL_iff.1 h1) (lessL_iff.1 h2))
theorem lessL_tot {xs ys : List Int} (h1 : lessL xs ys = false) (hne : xs ≠ ys) : lessL ys xs = true := by
  rw [lessL_nf] at h1
  rw [lessL_iff, cmpL_swap xs ys]
  have : cmpL xs ys ≠ 0 := fun h => hne (cmpL_eq h)
  omega
/-- Strictly ascending. -/
def AscL (l : List (List Int)) : Prop := l.Pairwise fun a b => lessL a b = true
theorem AscL.nil : AscL [] := List.Pairwise.nil
theorem AscL.uniq : ∀ {l m : List (List Int)}, AscL l → AscL m → (∀ z, z ∈ l ↔ z ∈ m) → l = m
  | [], [], _, _, _ => rfl
  | [], y :: m, _, _, h => by have := (h y).2 (List.mem_cons_self ..); simp at this
  | x :: l, [], _, _, h => by have := (h x).1 (List.mem_cons_self ..); simp at this
  | x :: l, y :: m, hl, hm, h => by
    have h1 := List.pairwise_cons.1 hl
    have h2 := List.pairwise_cons.1 hm
    have e : x = y := by
      rcases List.mem_cons.1 ((h x).1 (List.mem_cons_self ..)) with e | e
      · exact e
      · rcases List.mem_cons.1 ((h y).2 (List.mem_cons_self ..)) with e' | e'
        · exact e'.symm
        · have a := h2.1 x e
          have b := h1.1 y e'
          have := lessL_tr a b
          rw [lessL_irr] at this; cases this
    subst e
    congr 1
    refine AscL.uniq h1.2 h2.2 fun z => ⟨fun hz => ?_, fun hz => ?_⟩
    · rcases List.mem_cons.1 ((h z).1 (List.mem_cons_of_mem _ hz)) with e | e
      · subst e; have := h1.1 _ hz; rw [lessL_irr] at this; cases this
      · exact e
    · rcases List.mem_cons.1 ((h z).2 (List.mem_cons_of_mem _ hz)) with e | e
      · subst e; have := h2.1 _ hz; rw [lessL_irr] at this; cases this
      · exact e
/-- What the library's sort leaves, where no list comes twice. -/
theorem AscL.sorted {us ts : List (List Int)} (hp : us.Perm ts) (hs : us.Pairwise fun a b => 0 ≤ cmpL b a) (hn : ts.Nodup) : AscL us := by
  have hnu : us.Nodup := hp.nodup_iff.2 hn
  refine (hs.and (List.nodup_iff_pairwise_ne.1 hnu)).imp fun {a b} h => ?_
  exact lessL_tot (lessL_nf.2 h.1) (fun e => h.2 e.symm)
/-- The place before which a list is put in. -/
def plcU (l : List (List Int)) (x : List Int) : Nat := (l.takeWhile fun y => lessL y x).length
theorem plcU_le (l : List (List Int)) (x : List Int) : plcU l x ≤ l.length := (List.takeWhile_sublist _).length_le
theorem plcU_is {x : List Int} : ∀ (l : List (List Int)) (k : Nat), k ≤ l.length → (∀ j, j < k → lessL (li l j) x = true) → (k = l.length ∨ lessL (li l k) x = false) → plcU l x = k
  | [], k, hk, _, _ => by
    have : k = 0 := by simpa using hk
    subst this; rfl
  | y :: r, 0, _, _, h2 => by
    rcases h2 with h | h
    · simp at h
    · have h' : lessL y x = false := h
      simp [plcU, h']
  | y :: r, k + 1, hk, h1, h2 => by
    have h0 : lessL y x = true := h1 0 (by omega)
    have ih := plcU_is r k (by simpa using hk) (fun j hj => h1 (j + 1) (by omega)) (by
      rcases h2 with h | h
      · exact .inl (by simpa using h)
      · exact .inr h)
    have e : plcU (y :: r) x = plcU r x + 1 := by simp [plcU, h0]
    rw [e, ih]
/-- A list put into an ascending list of lists, unless it is there. -/
def insU (l : List (List Int)) (x : List Int) : List (List Int) :=
  if plcU l x < l.length ∧ li l (plcU l x) = x then l else l.take (plcU l x) ++ x :: l.drop (plcU l x)
theorem insU_cons_lt {y x : List Int} {r : List (List Int)} (h : lessL y x = true) : insU (y :: r) x = y :: insU r x := by
  have e : plcU (y :: r) x = plcU r x + 1 := by simp [plcU, h]
  unfold insU
  rw [e]
  have e2 : li (y :: r) (plcU r x + 1) = li r (plcU r x) := rfl
  rw [e2]
  by_cases hc : plcU r x < r.length ∧ li r (plcU r x) = x
  · rw [if_pos hc, if_pos ⟨by simp; omega, hc.2⟩]
  · rw [if_neg hc, if_neg (fun h => hc ⟨by have := h.1; simp at this; omega, h.2⟩)]; rfl
theorem insU_cons_eq {x : List Int} {r : List (List Int)} : insU (x :: r) x = x :: r := by
  have e : plcU (x :: r) x = 0 := by simp [plcU, lessL_irr]
  unfold insU
  rw [e, if_pos ⟨by simp, rfl⟩]
theorem insU_cons_gt {y x : List Int} {r : List (List Int)} (h : lessL y x = false) (hne : y ≠ x) : insU (y :: r) x = x :: y :: r := by
  have e : plcU (y :: r) x = 0 := by simp [plcU, h]
  unfold insU
  rw [e, if_neg (fun hc => hne hc.2)]; rfl
theorem insU_mem {x z : List Int} : ∀ l : List (List Int), z ∈ insU l x ↔ z = x ∨ z ∈ l
  | [] => by simp [insU, plcU]
  | y :: r => by
    by_cases h : lessL y x = true
    · rw [insU_cons_lt h, List.mem_cons, insU_mem r, List.mem_cons]
      exact ⟨fun h => by rcases h with h | h | h <;> simp [h], fun h => by rcases h with h | h | h <;> simp [h]⟩
    · have hf : lessL y x = false := by simpa using h
      by_cases e : y = x
      · subst e; rw [insU_cons_eq]; simp
      · rw [insU_cons_gt hf e]; simp
theorem AscL.ins {x : List Int} : ∀ {l : List (List Int)}, AscL l → AscL (insU l x)
  | [], _ => by simp [insU, plcU, AscL]
  | y :: r, hl => by
    have h1 := List.pairwise_cons.1 hl
    by_cases h : lessL y x = true
    · rw [insU_cons_lt h]
      refine List.pairwise_cons.2 ⟨fun z hz => ?_, AscL.ins h1.2⟩
      rcases (insU_mem r).1 hz with e | e
      · subst e; exact h
      · exact h1.1 z e
    · have hf : lessL y x = false := by simpa using h
      by_cases e : y = x
      · subst e; rw [insU_cons_eq]; exact hl
      · rw [insU_cons_gt hf e]
        have hxy := lessL_tot hf e
        refine List.pairwise_cons.2 ⟨fun z hz => ?_, hl⟩
        rcases List.mem_cons.1 hz with e | e
        · subst e; exact hxy
        · exact lessL_tr hxy (h1.1 z e)
theorem insU_len (l : List (List Int)) (x : List Int) : (insU l x).length ≤ l.length + 1 := by
  have := plcU_le l x
  unfold insU
  split
  · omega
  · simp; omega
end Go.Proofs.Ytjpoliibljjhnaa

/-
  Contracts of the program's functions: copies of arrays, identity, longest, products, inverses. Conditions: lengths below 2^40.
-/




namespace Go.Proofs.Ytjpoliibljjhnaa
open Go.RowKit

set_option maxHeartbeats 400000 in
theorem clone_any (A : Option Addr) (n c : Nat) (xs : List Int) (w : World) (hs : SI w A n xs) (hA : A = none → n = 0 ∧ c = 0) (hn : n ≤ 1099511627776) :
    Calls Try.prog 190 #[.slice A n c] w fun e w' => Fresh w w' e xs := by
  have hl := hs.1
  cases A with
  | none =>
    obtain ⟨rfl, rfl⟩ := hA rfl
    have hx : xs = [] := List.eq_nil_of_length_eq_zero hl
    subst hx
    have hnil := fun wx => Lib.run_eql_slice_nil (P := Try.prog) wx 22 3 none 0 0 0 0 Try.underlying22
    go_enter Try.func190, Try.ntmps190
    go_wp2
    go_ret
    exact Fresh.nil_ret (Below.refl _ _)
  | some a =>
    have hnil := fun wx => Lib.run_eql_slice_nil (P := Try.prog) wx 22 3 (some a) n c 0 0 Try.underlying22
    have HL := Lib.hid hl
    clear hl
    go_enter Try.func190, Try.ntmps190
    go_wp2_with (at_builtin; refine wpList_append_all rfl (.tmp 5) (.tmp 6) rfl w.heap.size (some ⟨w.heap.size, 0, none⟩) 0 0 [] (some a) n c xs rfl rfl ((Own.empty w).wide (Nat.le_refl _) (by simp)) (hs.alloc _) (by simp) (by omega) hn ?_; intro A' c' w1 ho1 _ hb1)
    go_ret
    have e := HL.out
    subst e
    exact ⟨A', _, c', rfl, by simpa using ho1, (Below.alloc_self _ _).trans hb1⟩

/-- A slice of an array that lies in a block. -/
theorem SI.of_arr {w : World} {g t n : Nat} {l : List Int} (h : Blk w g t (arrC l)) (hn : n ≤ 7) (hl : l.length = 7) : SI w (some ⟨g, 0, none⟩) n (l.take n) := by
  refine ⟨by simp; omega, fun _ => ⟨g, 0, rfl, h.lt, fun k hk => ?_⟩⟩
  rw [nth_take hk, Nat.zero_add, h.cell, arrC_get l k (by omega)]

theorem Try.arrLen : Try.prog.arrayLen 107 = 7 := by kernel_rfl
theorem Try.arrElem : Try.prog.elem 107 = 3 := by kernel_rfl
theorem sliceArr_to (a : Addr) (n : Nat) (hn : n ≤ 7) (w : World) : (Instr.sliceAt 107 (.pointer (some a)) none (some (.int .i64 n)) none).run Try.prog w = .ok (.slice (some a) n 7) w := by
  obtain ⟨i0, hi, hz0, hz1, hz2⟩ := info_parts Try.infoInt
  have h := run_sliceAt_array_h (P := Try.prog) w 107 a (by rw [Try.arrLen, Try.arrElem]; exact Try.undArr) .i64 (n : Int) (by omega) (by rw [Try.arrLen]; omega)
  rw [h, Try.arrLen, Try.arrElem]
  simp [sizeOf, typeInfo, hi, slicedAt, Addr.add]
theorem sliceArr_from (a : Addr) (n : Nat) (hn : n ≤ 7) (w : World) : (Instr.sliceAt 107 (.pointer (some a)) (some (.int .i64 n)) none none).run Try.prog w = .ok (.slice (some (if 7 = n then a else a.add n)) (7 - n) (7 - n)) w := by
  obtain ⟨i0, hi, hz0, hz1, hz2⟩ := info_parts Try.infoInt
  have h := run_sliceAt_array_l (P := Try.prog) w 107 a (by rw [Try.arrLen, Try.arrElem]; exact Try.undArr) .i64 (n : Int) (by omega) (by rw [Try.arrLen]; omega)
  rw [h, Try.arrLen, Try.arrElem]
  simp [sizeOf, typeInfo, hi, slicedAt, hz1]

set_option maxHeartbeats 400000 in
theorem list_any (l : List Int) (n : Nat) (w : World) (hl : l.length = 7) (hn : n ≤ 7) :
    Calls Try.prog 100 #[arr l, .int .i64 n] w fun e w' => Fresh w w' e (l.take n) := by
  have HL := Lib.hid hl
  clear hl
  have hsl := fun wx => sliceArr_to ⟨w.heap.size, 0, none⟩ n hn wx
  go_enter Try.func100, Try.ntmps100
  go_wp2_with fail
  refine (clone_any _ _ _ _ _ (SI.of_arr (Blk.new w 107 (arrC l)) hn HL.out) (by intro h; cases h) (by omega)).mono ?_
  rintro e w1 ⟨A1, n1, c1, rfl, ho1, hb1⟩
  go_wp2
  go_ret
  exact Fresh.after (Below.alloc_self _ _) ⟨A1, n1, c1, rfl, ho1, hb1⟩

set_option maxHeartbeats 400000 in
theorem implIdentity_in (n : Nat) (w : World) (h1 : 1 ≤ n) (h7 : n ≤ 7) :
    Calls Try.prog 257 #[.int .i64 n] w fun e w' => Fresh w w' e (idL n) := by
  have e7 : (idL 7).take n = idL n := by
    rw [idL, idL, ← List.map_take, List.take_range, Nat.min_eq_left h7]
  have HE := Lib.hid e7
  clear e7
  go_enter Try.func257, Try.ntmps257
  go_wp2_with fail
  refine (isPermSize_yes (by omega) (by omega) _).mono ?_
  rintro e w1 ⟨rfl, rfl⟩
  go_wp2_with fail
  refine (identityArray_any _).mono ?_
  rintro e w2 ⟨rfl, hb2⟩
  go_wp2_with fail
  refine (list_any (idL 7) n w2 rfl h7).mono ?_
  rintro e w3 ⟨A3, n3, c3, rfl, ho3, hb3⟩
  rw [HE.out] at ho3
  go_wp2
  go_ret
  exact Fresh.after hb2 ⟨A3, n3, c3, rfl, ho3, hb3⟩
theorem implIdentity_out (a : Int) (w : World) (h : a < 1 ∨ 7 < a) :
    Calls Try.prog 257 #[.int .i64 a] w fun e w' => Fresh w w' e [] := by
  go_enter Try.func257, Try.ntmps257
  go_wp2_with (go_at_call 182; refine (isPermSize_no (by omega) _).mono ?_; rintro e w' ⟨rfl, rfl⟩)
  go_ret
  exact ⟨none, 0, 0, rfl, Own.nil _ _ _, Below.refl _ _⟩
theorem implIdentity_any (a : Int) (w : World) : Calls Try.prog 257 #[.int .i64 a] w fun e w' => Fresh w w' e (idPerm a) := by
  unfold idPerm
  split
  · rename_i h
    have e : a = ((a.toNat : Nat) : Int) := by omega
    have := implIdentity_in a.toNat w (by omega) (by omega)
    rwa [← e] at this
  · exact implIdentity_out a w (by omega)
end Go.Proofs.Ytjpoliibljjhnaa

/-
  Contracts of the program's functions on arrays: products, inverses; reversing a slice. Conditions: lengths below 2^40.
-/

namespace Go.Proofs.Ytjpoliibljjhnaa
open Go.RowKit

theorem idxArr (l : List Int) (k : Nat) (h : k < 7) (w : World) : (Instr.index 107 (.agg (arrC l)) (.int .i64 k)).run Try.prog w = .ok (.int .i64 (nth l k)) w := by
  rcases lt7 h with rfl | rfl | rfl | rfl | rfl | rfl | rfl <;> kernel_rfl

def part7 (g h : Nat → Int) (k : Nat) : List Int := (List.range 7).map fun j => if j < k then g j else h j
theorem part7_len (g h : Nat → Int) (k : Nat) : (part7 g h k).length = 7 := by simp [part7]
theorem part7_nth (g h : Nat → Int) (k j : Nat) (hj : j < 7) : nth (part7 g h k) j = if j < k then g j else h j := by
  rw [nth_get (by rw [part7_len]; exact hj)]
  simp [part7]
theorem part7_set (g h : Nat → Int) (k : Nat) (hk : k < 7) : (arrC (part7 g h k)).setIfInBounds k (.int .i64 (g k)) = arrC (part7 g h (k + 1)) := by
  rw [arrC_set _ k hk _ (part7_len _ _ _)]
  congr 1
  apply List.ext_getElem (by simp [part7])
  intro j h1 h2
  rw [List.getElem_set]
  simp only [part7, List.getElem_map, List.getElem_range]
  by_cases e : k = j
  · subst e; simp
  · rw [if_neg e]
    by_cases h3 : j < k
    · rw [if_pos h3, if_pos (by omega)]
    · rw [if_neg h3, if_neg (by omega)]

/-- The product of two arrays. -/
def permTimesL (la lb : List Int) : List Int := part7 (fun j => nth la (nth lb j).toNat) (fun _ => 0) 7

set_option maxHeartbeats 1000000 in
theorem inverse_any (l : List Int) (w : World) (hr : ∀ k, k < 7 → 0 ≤ nth l k ∧ nth l k < 7) :
    Calls Try.prog 134 #[arr l] w fun e w' => e = .returned (arr (invM l 7 7)) ∧ Below w.heap.size w w' := by
  have HR := Lib.hid hr
  clear hr
  go_enter Try.func134, Try.ntmps134
  go_wp2
  go_loopw [7] (fun i wr => ∃ k : Nat, k ≤ 7 ∧ i = .int .i64 k ∧ Blk wr (w.heap.size + 1) 107 zeroC ∧ Blk wr (w.heap.size + 2) 107 (arrC (invM l 7 k)) ∧ Below w.heap.size w wr)
    (fun i _ => 7 - (intOf i).toNat)
  case atStart =>
    refine ⟨0, by omega, rfl, ?_, ?_, by go_grown⟩
    · have := ((Blk.new ((w.alloc (.cells (arrC l) 107))) 107 zeroC).alloc (.cells zeroC 107))
      simp only [World.size_alloc] at this
      exact this
    · have := (Blk.new (((w.alloc (.cells (arrC l) 107)).alloc (.cells zeroC 107))) 107 (arrC (invM l 7 0)))
      simp only [World.size_alloc] at this
      exact this
  case round =>
    obtain ⟨k, hk, rfl, hZ, hP, hB⟩ := hrel
    have HZ := Lib.hid hZ
    have HP := Lib.hid hP
    have HB := Lib.hid hB
    clear hZ hP hB
    by_cases hlt : k < 7
    · have hix := fun wx => idxArr l k hlt wx
      obtain ⟨hr0, hr1⟩ := HR.out k hlt
      obtain ⟨x, hx⟩ : ∃ x, x = nth l k := ⟨_, rfl⟩
      rw [← hx] at hix hr0 hr1
      have HX := Lib.hid hx
      clear hx
      have hcP : wr.cell? ⟨w.heap.size + 2, x.toNat, none⟩ = some (.int .i64 (nth (invM l 7 k) x.toNat)) := (HP.out.cell _).trans (arrC_get _ _ (by omega))
      have hfP := HP.out.frozen x.toNat
      go_wp2
      go_roundw
      case rel =>
        have e1 := HX.out
        refine ⟨k + 1, by omega, by go_num, HZ.out.far (by show w.heap.size + 1 ≠ w.heap.size + 2; omega) _, ?_, HB.out.setCell (by show w.heap.size ≤ w.heap.size + 2; omega) _⟩
        have := HP.out.set_ x.toNat (.int .i64 (k : Int))
        rw [arrC_set _ _ (by omega) _ (invM_len _ _ _)] at this
        rw [invM_succ, ← e1]
        exact this
      case measure => simp [intOf]; omega
    · have hkn : k = 7 := by omega
      subst hkn
      go_wp2_with (first | (refine wpList_load_blk rfl 107 (.tmp 3) rfl (w.heap.size + 2) rfl 107 (arrC (invM l 7 7)) 7 3 HP.out Try.undArr Try.infoArr ?_) | (refine wpList_store_blk rfl 107 (.tmp 2) (.tmp 15) rfl (w.heap.size + 1) (arrC (invM l 7 7)) rfl rfl 107 zeroC HZ.out Try.infoArr rfl (arrC_one _) ?_; intro w3 hR3 hg3))
      refine bodyPost_ret (results_blk Try.results134 _ _ _ _ _ 7 3 rfl hR3 Try.undArr Try.infoArr) rfl ?_
      exact ⟨rfl, HB.out.grown hg3 HB.out.size (by rintro _ ⟨⟩; omega)⟩

/-! Plain facts on the array of a permutation. -/
theorem fillA_range {xs : List Int} (h : isPermP xs) (k : Nat) (hk : k < 7) : 0 ≤ nth (fillA xs xs.length) k ∧ nth (fillA xs xs.length) k < 7 := by
  have h7 := h.2.1
  rw [fillA_nth _ _ _ hk]
  split
  · rename_i hlt
    have := h.range k hlt
    omega
  · omega
theorem fillA_ge {xs : List Int} {n k : Nat} (h : ¬ k < n) (hk : k < 7) : nth (fillA xs n) k = (k : Int) := by rw [fillA_nth _ _ _ hk, if_neg h]
theorem fillA_lt {xs : List Int} {n k : Nat} (h : k < n) (hk : k < 7) : nth (fillA xs n) k = nth xs k := by rw [fillA_nth _ _ _ hk, if_pos h]

theorem permTimesL_take {us vs : List Int} (_hu : isPermP us) (hv : isPermP vs) (hl : us.length = vs.length) : (permTimesL (fillA us us.length) (fillA vs vs.length)).take vs.length = compL us vs vs.length := by
  have h7 := hv.2.1
  apply List.ext_getElem
  · rw [List.length_take, compL_len]; simp [permTimesL, part7]; omega
  · intro j h1 h2
    have hj : j < vs.length := by rw [compL_len] at h2; exact h2
    have hr := hv.range j hj
    rw [List.getElem_take]
    simp only [permTimesL, part7, compL, List.getElem_map, List.getElem_range]
    rw [if_pos (by omega), fillA_lt hj (by omega), fillA_lt (by omega) (by omega)]

theorem invM_take {xs : List Int} (h : isPermP xs) : (invM (fillA xs xs.length) 7 7).take xs.length = invM xs xs.length xs.length := by
  have h7 := h.2.1
  have key : ∀ k, k ≤ xs.length → (invM (fillA xs xs.length) 7 k).take xs.length = invM xs xs.length k := by
    intro k
    induction k with
    | zero =>
      intro _
      show (List.replicate 7 (0 : Int)).take xs.length = List.replicate xs.length 0
      rw [List.take_replicate, Nat.min_eq_left h7]
    | succ k ih =>
      intro hk
      have hr := h.range k (by omega)
      rw [invM_succ, invM_succ, ← ih (by omega), fillA_lt (by omega) (by omega), List.take_set]
  have key2 : ∀ d, xs.length + d ≤ 7 → (invM (fillA xs xs.length) 7 (xs.length + d)).take xs.length = invM xs xs.length xs.length := by
    intro d
    induction d with
    | zero => intro _; exact key _ (Nat.le_refl _)
    | succ d ih =>
      intro hd
      rw [show xs.length + (d + 1) = (xs.length + d) + 1 from by omega, invM_succ, fillA_ge (by omega) (by omega), List.take_set]
      rw [List.set_eq_of_length_le (by simp [invM_len]; omega)]
      exact ih (by omega)
  have := key2 (7 - xs.length) (by omega)
  rwa [show xs.length + (7 - xs.length) = 7 from by omega] at this
end Go.Proofs.Ytjpoliibljjhnaa

/-
  Contracts of the specification's EmbedPerm, TrimPerm, RankAt. Conditions: lengths below 2^40.
-/


namespace Go.Proofs.Ytjpoliibljjhnaa
open Go.RowKit

set_option maxHeartbeats 400000 in
theorem l1Ints_any (A : Option Addr) (n c : Nat) (xs : List Int) (w : World) (hs : SI w A n xs) (hn : n ≤ 1099511627776) :
    Calls Try.prog 173 #[.slice A n c] w fun e w' => Fresh w w' e xs := by
  go_enter Try.func173, Try.ntmps173
  go_wp2_with (at_builtin; refine wpList_append_all rfl (.tmp 3) (.tmp 4) rfl w.heap.size (some ⟨w.heap.size, 0, none⟩) 0 0 [] A n c xs rfl rfl ((Own.empty w).wide (Nat.le_refl _) (by simp)) (hs.alloc _) (by simp) (by omega) hn ?_; intro A' c' w1 ho1 _ hb1)
  go_ret
  exact ⟨A', _, c', rfl, by simpa using ho1, (Below.alloc_self _ _).trans hb1⟩

theorem fill_take_len {xs : List Int} (h7 : xs.length ≤ 7) : (fillA xs xs.length).take xs.length = xs := by
  apply List.ext_getElem
  · rw [List.length_take, fillA_len]; omega
  · intro j h1 h2
    rw [List.getElem_take]
    simp only [fillA, List.getElem_map, List.getElem_range]
    rw [if_pos h2, nth_get h2]
theorem fill_take_succ {xs : List Int} {k : Nat} (hk : xs.length ≤ k) (h7 : k < 7) : (fillA xs xs.length).take (k + 1) = (fillA xs xs.length).take k ++ [(k : Int)] := by
  rw [take_nth (by rw [fillA_len]; exact h7), fillA_ge (by omega) h7]
theorem fill_take_short {xs : List Int} {k : Nat} (hk : k ≤ xs.length) (h7 : xs.length ≤ 7) : (fillA xs xs.length).take k = xs.take k := by
  have := fill_take_len h7
  rw [← this, List.take_take]
  rw [this, Nat.min_eq_left hk]

set_option maxHeartbeats 800000 in
theorem l1Grow_any (A : Option Addr) (n c m : Nat) (xs : List Int) (w : World) (hs : SI w A n xs) (hm : n ≤ m) (h7 : m ≤ 7) :
    Calls Try.prog 105 #[.slice A n c, .int .i64 m] w fun e w' => Fresh w w' e ((fillA xs xs.length).take m) := by
  have hl := hs.1
  have e0 := fill_take_len (xs := xs) (by omega)
  rw [hl] at e0 ⊢
  have HE := Lib.hid e0
  have HL := Lib.hid hl
  clear e0 hl
  go_enter Try.func105, Try.ntmps105
  go_wp2_with fail
  refine (l1Ints_any A n c xs _ hs (by omega)).mono ?_
  rintro e w1 ⟨A1, n1, c1, rfl, ho1, hb1⟩
  have en : n1 = n := by have := ho1.len; have := HL.out; omega
  subst en
  go_wp2
  go_loopw [5] (fun v wr => ∃ (k : Nat) (A : Option Addr) (c : Nat), n1 ≤ k ∧ k ≤ m ∧ v = .slice A k c ∧ Own wr w.heap.size wr.heap.size A k c ((fillA xs n1).take k) ∧ Below w.heap.size w wr)
    (fun v _ => match v with | .slice _ k _ => m - k | _ => 0)
  case atStart => exact ⟨n1, _, _, Nat.le_refl _, hm, rfl, by rw [HE.out]; exact ho1, hb1⟩
  case round =>
    obtain ⟨k, A0, c0, hk1, hk, rfl, hown, hbel⟩ := hrel
    have HO := Lib.hid hown
    have HB := Lib.hid hbel
    clear hown hbel ho1 hb1
    by_cases hlt : k < m
    · have hlI : (k : Int) < (m : Int) := by omega
      go_wp2_with (at_builtin; refine wpList_append1 rfl (.tmp 12) (.tmp 15) rfl w.heap.size A0 k c0 ((fillA xs n1).take k) (k : Int) rfl rfl HO.out HB.out.size (by omega) ?_; intro A' c' w3 ho3 _ hb3)
      go_roundw
      case rel =>
        have e1 := HL.out
        subst e1
        exact ⟨k + 1, _, _, by omega, by omega, rfl, by rw [fill_take_succ hk1 (by omega)]; exact ho3, HB.out.trans hb3⟩
      case measure => simp; omega
    · have hkm : k = m := by omega
      subst hkm
      go_wp2
      go_ret
      exact ⟨A0, _, c0, rfl, HO.out, HB.out⟩

/-- What EmbedPerm answers. -/
def embPerm (xs : List Int) (a : Int) : List Int := if isPermB xs = true ∧ (xs.length : Int) ≤ a ∧ a ≤ 7 then (fillA xs xs.length).take a.toNat else []
theorem embPerm_no {xs : List Int} {a : Int} (h : isPermB xs = false ∨ a < (xs.length : Int) ∨ 7 < a) : embPerm xs a = [] := by
  unfold embPerm
  rw [if_neg]
  rintro ⟨h1, h2, h3⟩
  rcases h with h | h | h
  · rw [h1] at h; cases h
  · omega
  · omega
theorem embPerm_yes {xs : List Int} {m : Nat} (h : isPermB xs = true) (h1 : xs.length ≤ m) (h2 : m ≤ 7) : embPerm xs (m : Int) = (fillA xs xs.length).take m := by
  unfold embPerm
  rw [if_pos ⟨h, by omega, by omega⟩, Int.toNat_natCast]
theorem embPerm_small (xs : List Int) (a : Int) : (embPerm xs a).length ≤ 1099511627775 := by
  unfold embPerm
  split
  · rw [List.length_take, fillA_len]; omega
  · simp
/-- How much of a permutation is left. -/
def trimN (xs : List Int) : Nat → Nat
  | 0 => 0
  | k + 1 => if 0 < k ∧ nth xs k = (k : Int) then trimN xs k else k + 1
theorem trimN_hit {xs : List Int} {k : Nat} (h0 : 0 < k) (h : nth xs k = (k : Int)) : trimN xs (k + 1) = trimN xs k := by
  show (if 0 < k ∧ nth xs k = (k : Int) then trimN xs k else k + 1) = _
  rw [if_pos ⟨h0, h⟩]
theorem trimN_miss {xs : List Int} {k : Nat} (h : ¬ (0 < k ∧ nth xs k = (k : Int))) : trimN xs (k + 1) = k + 1 := by
  show (if 0 < k ∧ nth xs k = (k : Int) then trimN xs k else k + 1) = _
  rw [if_neg h]
theorem trimN_le (xs : List Int) (k : Nat) : trimN xs k ≤ k := by
  induction k with
  | zero => exact Nat.le_refl _
  | succ k ih => unfold trimN; split <;> omega
def trimPerm (xs : List Int) : List Int := if isPermB xs = true then xs.take (trimN xs xs.length) else []
theorem trimPerm_no {xs : List Int} (h : isPermB xs = false) : trimPerm xs = [] := by unfold trimPerm; rw [if_neg (by rw [h]; decide)]
theorem trimPerm_yes {xs : List Int} (h : isPermB xs = true) : trimPerm xs = xs.take (trimN xs xs.length) := by unfold trimPerm; rw [if_pos h]
theorem trimPerm_small (xs : List Int) : (trimPerm xs).length ≤ 1099511627775 := by
  unfold trimPerm
  split
  · rename_i h
    have := isPermB_small h
    rw [List.length_take]; omega
  · simp
set_option maxHeartbeats 800000 in
theorem l1Trim_any (A : Option Addr) (n c : Nat) (xs : List Int) (w : World) (hs : SI w A n xs) (hnc : n ≤ c) (h1 : 1 ≤ n) (hn : n ≤ 1099511627776) :
    Calls Try.prog 194 #[.slice A n c] w fun e w' => Fresh w w' e (xs.take (trimN xs n)) := by
  have hl := hs.1
  have HL := Lib.hid hl
  clear hl
  obtain ⟨b, o, rfl, hb, hc⟩ := hs.at_ (by omega)
  have HC := Lib.hid hc
  clear hc
  go_enter Try.func194, Try.ntmps194
  go_wp2
  go_loop [3] (fun v => ∃ k : Nat, k + 1 ≤ n ∧ v = .int .i64 ((k : Int) + 1) ∧ trimN xs (k + 1) = trimN xs n)
    (fun v => (intOf v).toNat)
  case atStart => exact ⟨n - 1, by omega, by go_num, by rw [show n - 1 + 1 = n from by omega]⟩
  case round =>
    obtain ⟨k, hk, rfl, htr⟩ := hrel
    have HT := Lib.hid htr
    have hck := HC.out k (by omega)
    obtain ⟨x, hx⟩ : ∃ x, x = nth xs k := ⟨_, rfl⟩
    rw [← hx] at hck
    have HX := Lib.hid hx
    clear htr hx
    by_cases h0 : 0 < k
    · by_cases hxk : x = (k : Int)
      · subst hxk
        go_wp2
        go_round
        case rel =>
          have e1 := HX.out
          have e2 := HT.out
          rw [trimN_hit h0 e1.symm] at e2
          exact ⟨k - 1, by omega, by go_num, by rw [show k - 1 + 1 = k from by omega]; exact e2⟩
        case measure => simp only [intOf]; omega
      · have hxb : (x == (k : Int)) = false := by simpa using hxk
        have e2 := HT.out
        rw [trimN_miss (by have := HX.out; rintro ⟨_, h⟩; omega)] at e2
        have HT2 := Lib.hid e2
        have hst := hs.take (k := k + 1) (by omega)
        have HX2 := Lib.hid hxk
        clear e2 HT hxk
        go_wp2_with fail
        refine (l1Ints_any _ _ _ _ _ hst (by omega)).mono ?_
        rintro e w3 ⟨A3, n3, c3, rfl, ho3, hb3⟩
        go_wp2
        go_ret
        rw [← HT2.out]
        exact ⟨A3, n3, c3, rfl, ho3, hb3⟩
    · have hk0 : k = 0 := by omega
      subst hk0
      have e2 := HT.out
      rw [trimN_miss (by rintro ⟨h, _⟩; omega)] at e2
      have HT2 := Lib.hid e2
      have hst := hs.take (k := 1) (by omega)
      clear e2 HT
      go_wp2_with fail
      refine (l1Ints_any _ _ _ _ _ hst (by omega)).mono ?_
      rintro e w3 ⟨A3, n3, c3, rfl, ho3, hb3⟩
      go_wp2
      go_ret
      rw [← HT2.out]
      exact ⟨A3, n3, c3, rfl, ho3, hb3⟩
/-- How many of the first k numbers are below c. -/
def rankN (xs : List Int) (c : Int) : Nat → Nat
  | 0 => 0
  | k + 1 => rankN xs c k + if nth xs k < c then 1 else 0
theorem rankN_le (xs : List Int) (c : Int) (k : Nat) : rankN xs c k ≤ k := by
  induction k with
  | zero => exact Nat.le_refl _
  | succ k ih => unfold rankN; split <;> omega
theorem rankN_hit {xs : List Int} {c : Int} {k : Nat} (h : nth xs k < c) : rankN xs c (k + 1) = rankN xs c k + 1 := by
  show rankN xs c k + (if nth xs k < c then 1 else 0) = _
  rw [if_pos h]
theorem rankN_miss {xs : List Int} {c : Int} {k : Nat} (h : ¬ nth xs k < c) : rankN xs c (k + 1) = rankN xs c k := by
  show rankN xs c k + (if nth xs k < c then 1 else 0) = _
  rw [if_neg h]; rfl
theorem rankN_congr {xs ys : List Int} (c : Int) : ∀ k, (∀ t, t < k → nth xs t = nth ys t) → rankN xs c k = rankN ys c k := by
  intro k
  induction k with
  | zero => intro _; rfl
  | succ k ih => intro h; unfold rankN; rw [ih (fun t ht => h t (by omega)), h k (by omega)]
/-- What RankAt answers. -/
def rankPerm (xs : List Int) (r c : Int) : Int := if isPermB xs = true ∧ 0 ≤ r ∧ r ≤ xs.length ∧ 0 ≤ c ∧ c ≤ xs.length then (rankN xs c r.toNat : Int) else -1
theorem rankPerm_no {xs : List Int} {r c : Int} (h : ¬ (isPermB xs = true ∧ 0 ≤ r ∧ r ≤ xs.length ∧ 0 ≤ c ∧ c ≤ xs.length)) : rankPerm xs r c = -1 := by unfold rankPerm; rw [if_neg h]
theorem rankPerm_yes {xs : List Int} {r : Nat} {c : Int} (h : isPermB xs = true) (h1 : (r : Int) ≤ xs.length) (h2 : 0 ≤ c) (h3 : c ≤ xs.length) : rankPerm xs (r : Int) c = (rankN xs c r : Int) := by
  unfold rankPerm; rw [if_pos ⟨h, by omega, h1, h2, h3⟩, Int.toNat_natCast]
end Go.Proofs.Ytjpoliibljjhnaa

/-
  Contracts of words and of what comes of them: the specification's side. Conditions: lengths below 2^40.
-/


namespace Go.Proofs.Ytjpoliibljjhnaa
open Go.RowKit

/-- Two places exchanged. -/
def swapL (l : List Int) (i j : Nat) : List Int := (l.set i (nth l j)).set j (nth l i)
theorem swapL_len (l : List Int) (i j : Nat) : (swapL l i j).length = l.length := by simp [swapL]
theorem swapL_take {l : List Int} {i j n : Nat} (hi : i < n) (hj : j < n) : (swapL l i j).take n = swapL (l.take n) i j := by
  unfold swapL
  rw [List.take_set, List.take_set, nth_take hi, nth_take hj]

set_option maxHeartbeats 800000 in
theorem l1Swap_any (A : Option Addr) (n c i j : Nat) (xs : List Int) (w : World) (hs : SI w A n xs) (hi : i < n) (hj : j < n) (hij : i ≠ j) (hn : n ≤ 1099511627776) :
    Calls Try.prog 83 #[.slice A n c, .int .i64 i, .int .i64 j] w fun e w' => Fresh w w' e (swapL xs i j) := by
  have HL := Lib.hid hs.1
  go_enter Try.func83, Try.ntmps83
  go_wp2_with fail
  refine (l1Ints_any A n c xs _ hs hn).mono ?_
  rintro e w1 ⟨A1, n1, c1, rfl, ho1, hb1⟩
  have en : n1 = n := by have := ho1.len; have := HL.out; omega
  subst en
  obtain ⟨g, rfl, hg1, hg2⟩ := ho1.place (by omega)
  obtain ⟨b, o, rfl, hb, hc⟩ := (hs.below hb1 (Nat.le_refl _)).at_ (by omega)
  obtain ⟨b0, o0, e0, hb0, hc0⟩ := hs.at_ (by omega)
  have hbb : b = b0 := by injection e0 with e1; injection e1
  have hbg : b ≠ g := by omega
  have hci := hc i hi
  have hcj := hc j hj
  obtain ⟨x, hx⟩ : ∃ x, x = nth xs i := ⟨_, rfl⟩
  obtain ⟨y, hy⟩ : ∃ y, y = nth xs j := ⟨_, rfl⟩
  rw [← hx] at hci
  rw [← hy] at hcj
  have hgi := ho1.cellAt hi
  have hgj := ho1.cellAt hj
  have hfi := ho1.frozenAt i
  have h1 := (ho1.set_ (k := i) y).1
  have hgj2 : (w1.setCell ⟨g, i, none⟩ (.int .i64 y)).cell? ⟨g, j, none⟩ = some (.int .i64 (nth xs j)) := (World.cell?_setCell_other w1 _ _ _ (by intro e; injection e with _ e2; exact hij e2)).trans hgj
  have hci2 : (w1.setCell ⟨g, i, none⟩ (.int .i64 y)).cell? ⟨b, o + i, none⟩ = some (.int .i64 x) := (World.cell?_setCell_other w1 _ _ _ (by intro e; injection e with e2; exact hbg e2.symm)).trans hci
  have hfj2 := h1.frozenAt j
  have h2 := (h1.set_ (k := j) x).1
  have HS : Hid (Own ((w1.setCell ⟨g, i, none⟩ (.int .i64 y)).setCell ⟨g, j, none⟩ (.int .i64 x)) w.heap.size w1.heap.size (some ⟨g, 0, none⟩) n1 c1 (swapL xs i j)) := Lib.hid (by unfold swapL; rw [← hx, ← hy]; exact h2)
  have HB := Lib.hid hb1
  have hiI : (i : Int) < (n1 : Int) := by omega
  have hjI : (j : Int) < (n1 : Int) := by omega
  have HG := Lib.hid hg1
  clear hx hy h1 h2 ho1 hb1 hs hc hc0 e0 hb hb0 hbb hbg hg2 hg1 hgj
  go_wp2
  go_ret
  exact ⟨_, _, _, rfl, HS.out.wide (Nat.le_refl _) (by simp), (HB.out.setCell HG.out _).setCell HG.out _⟩

/-- Is the list a word for a size. -/
def wordP (a : Int) (ws : List Int) : Prop := 1 ≤ a ∧ a ≤ 7 ∧ ws.length ≤ 60 ∧ ∀ k, k < ws.length → 0 ≤ nth ws k ∧ nth ws k ≤ a - 2
def wordB (a : Int) (ws : List Int) : Bool := decide (1 ≤ a) && decide (a ≤ 7) && decide (ws.length ≤ 60) && (List.range ws.length).all fun k => decide (0 ≤ nth ws k) && decide (nth ws k ≤ a - 2)
theorem wordB_iff (a : Int) (ws : List Int) : wordB a ws = true ↔ wordP a ws := by
  simp [wordB, wordP, and_assoc]
theorem wordB_P {a : Int} {ws : List Int} (h : wordB a ws = true) : wordP a ws := (wordB_iff a ws).1 h
theorem wordB_true {a : Int} {ws : List Int} (h : wordP a ws) : wordB a ws = true := (wordB_iff a ws).2 h
theorem wordB_false {a : Int} {ws : List Int} (h : ¬ wordP a ws) : wordB a ws = false := by
  cases hb : wordB a ws with
  | false => rfl
  | true => exact absurd (wordB_P hb) h

set_option maxHeartbeats 800000 in
theorem l1Word_any (a : Int) (A : Option Addr) (n c : Nat) (ws : List Int) (w : World) (hs : SI w A n ws) (hn : n ≤ 1099511627776) :
    Calls Try.prog 71 #[.int .i64 a, .slice A n c] w fun e w' => e = .returned (.bool (wordB a ws)) ∧ Drawn w w' := by
  have hl := hs.1
  have HL := Lib.hid hl
  by_cases ha : 1 ≤ a ∧ a ≤ 7
  · obtain ⟨ha1, ha2⟩ := ha
    by_cases h60 : 60 < n
    · go_enter Try.func71, Try.ntmps71
      go_wp2_with fail
      refine (l1In_yes' (by omega) (by omega) _).mono ?_
      rintro e w2 ⟨rfl, rfl⟩
      go_wp2
      go_ret
      exact ⟨ret_bool (wordB_false (fun h => by have := h.2.2.1; have := HL.out; omega)).symm, Drawn.refl _⟩
    · clear hl
      go_enter Try.func71, Try.ntmps71
      go_wp2_with fail
      refine (l1In_yes' (by omega) (by omega) _).mono ?_
      rintro e w2 ⟨rfl, rfl⟩
      go_wp2
      go_loop [5] (fun i => ∃ k : Nat, k ≤ n ∧ i = .int .i64 k ∧ ∀ j, j < k → 0 ≤ nth ws j ∧ nth ws j ≤ a - 2)
        (fun i => n - (intOf i).toNat)
      case atStart => exact ⟨0, Nat.zero_le _, rfl, fun j hj => absurd hj (by omega)⟩
      case round =>
        obtain ⟨k, hk, rfl, hall⟩ := hrel
        have HA := Lib.hid hall
        clear hall
        by_cases hlt : k < n
        · obtain ⟨b, o, rfl, hb, hc⟩ := hs.at_ (by omega)
          have hc1 := hc k hlt
          obtain ⟨x, hx⟩ : ∃ x, x = nth ws k := ⟨_, rfl⟩
          rw [← hx] at hc1
          have HX := Lib.hid hx
          clear hx hc hs
          by_cases hin : 0 ≤ x ∧ x ≤ a - 2
          · obtain ⟨hi1, hi2⟩ := hin
            go_wp2_with (go_at_call 88; refine (l1In_yes' (by omega) (by omega) _).mono ?_; rintro e w2 ⟨rfl, rfl⟩)
            go_round
            case rel => exact ⟨k + 1, by omega, by go_num, fun j hj => by
              rcases Nat.lt_or_ge j k with h | h
              · exact HA.out j h
              · obtain rfl : j = k := by omega
                have e1 := HX.out
                exact ⟨by omega, by omega⟩⟩
            case measure => simp [intOf]; omega
          · go_wp2_with (go_at_call 88; refine (l1In_no' (by omega) _).mono ?_; rintro e w2 ⟨rfl, rfl⟩)
            go_ret
            refine ⟨ret_bool (wordB_false (fun h => ?_)).symm, Drawn.refl _⟩
            have := h.2.2.2 k (by have := HL.out; omega)
            rw [← HX.out] at this
            exact hin this
        · have hkn : k = n := by omega
          subst hkn
          go_wp2
          go_ret
          exact ⟨ret_bool (wordB_true ⟨ha1, ha2, by have := HL.out; omega, by rw [HL.out]; exact HA.out⟩).symm, Drawn.refl _⟩
  · go_enter Try.func71, Try.ntmps71
    go_wp2_with fail
    refine (l1In_no' (by omega) _).mono ?_
    rintro e w2 ⟨rfl, rfl⟩
    go_wp2
    go_ret
    exact ⟨ret_bool (wordB_false (fun h => ha ⟨h.1, h.2.1⟩)).symm, Drawn.refl _⟩

/-- What comes of the first k numbers of a word: all of the swaps, or those that make longer. -/
def playL (ws : List Int) (all : Bool) : Nat → List Int
  | 0 => idL 7
  | k + 1 => if all = true ∨ nth (playL ws all k) (nth ws k).toNat < nth (playL ws all k) ((nth ws k).toNat + 1) then swapL (playL ws all k) (nth ws k).toNat ((nth ws k).toNat + 1) else playL ws all k
theorem playL_len (ws : List Int) (all : Bool) (k : Nat) : (playL ws all k).length = 7 := by
  induction k with
  | zero => rfl
  | succ k ih => unfold playL; split <;> simp [swapL_len, ih]
theorem playL_hit {ws : List Int} {all : Bool} {k i : Nat} (hi : (nth ws k).toNat = i) (h : all = true ∨ nth (playL ws all k) i < nth (playL ws all k) (i + 1)) : playL ws all (k + 1) = swapL (playL ws all k) i (i + 1) := by
  subst hi
  show (if all = true ∨ nth (playL ws all k) (nth ws k).toNat < nth (playL ws all k) ((nth ws k).toNat + 1) then swapL (playL ws all k) (nth ws k).toNat ((nth ws k).toNat + 1) else playL ws all k) = _
  rw [if_pos h]
theorem playL_miss {ws : List Int} {all : Bool} {k i : Nat} (hi : (nth ws k).toNat = i) (h : ¬ (all = true ∨ nth (playL ws all k) i < nth (playL ws all k) (i + 1))) : playL ws all (k + 1) = playL ws all k := by
  subst hi
  show (if all = true ∨ nth (playL ws all k) (nth ws k).toNat < nth (playL ws all k) ((nth ws k).toNat + 1) then swapL (playL ws all k) (nth ws k).toNat ((nth ws k).toNat + 1) else playL ws all k) = _
  rw [if_neg h]
theorem idL_take {n : Nat} (h : n ≤ 7) : (idL 7).take n = idL n := by
  rw [idL, idL, ← List.map_take, List.take_range, Nat.min_eq_left h]
theorem Drawn.own {w w' : World} {lo hi n c : Nat} {A : Option Addr} {xs : List Int} (hd : Drawn w w') (h : Own w lo hi A n c xs) : Own w' lo hi A n c xs := h.drawn hd

set_option maxHeartbeats 2000000 in
theorem l1Play_any (m : Nat) (all : Bool) (A : Option Addr) (n c : Nat) (ws : List Int) (w : World) (hs : SI w A n ws) (hw : wordP (m : Int) ws) :
    Calls Try.prog 73 #[.int .i64 m, .slice A n c, .bool all] w fun e w' => Fresh w w' e ((playL ws all n).take m) := by
  have HW := Lib.hid hw
  have HL := Lib.hid hs.1
  have hm1 : 1 ≤ m := by have := hw.1; omega
  have hm7 : m ≤ 7 := by have := hw.2.1; omega
  have hn60 : n ≤ 60 := by have := hw.2.2.1; have := hs.1; omega
  clear hw
  go_enter Try.func73, Try.ntmps73
  go_wp2_with fail
  refine (specIdentity_in m _ hm1 hm7).mono ?_
  rintro e w1 ⟨A1, n1, c1, rfl, ho1, hb1⟩
  have en : n1 = m := by have := ho1.len; rw [idL_len] at this; omega
  subst en
  go_wp2
  go_loopw [7, 8] (fun v i wr => ∃ (k : Nat) (A : Option Addr) (c : Nat), k ≤ n ∧ i = .int .i64 k ∧ v = .slice A n1 c ∧ Own wr w.heap.size wr.heap.size A n1 c ((playL ws all k).take n1) ∧ Below w.heap.size w wr)
    (fun _ i _ => n - (intOf i).toNat)
  case atStart => exact ⟨0, _, _, Nat.zero_le _, rfl, rfl, by show Own _ _ _ _ _ _ ((idL 7).take n1); rw [idL_take hm7]; exact ho1, hb1⟩
  case round =>
    obtain ⟨k, A0, c0, hk, rfl, rfl, hown, hbel⟩ := hrel
    have HO := Lib.hid hown
    have HB := Lib.hid hbel
    by_cases hlt : k < n
    · obtain ⟨b, o, e1, hb, hc⟩ := (hs.below hbel (Nat.le_refl _)).at_ (by omega)
      have hc1 := hc k hlt
      obtain ⟨hw1, hw2⟩ := HW.out.2.2.2 k (by have := HL.out; omega)
      obtain ⟨q, hq⟩ : ∃ q : Nat, nth ws k = (q : Int) := ⟨(nth ws k).toNat, by omega⟩
      have hqt : (nth ws k).toNat = q := by omega
      rw [hq] at hc1
      have hq2 : q + 1 < n1 := by omega
      have HQ := Lib.hid hqt
      obtain ⟨g, rfl, hg1, hg2⟩ := hown.place (by omega)
      have hcq := hown.cellAt (k := q) (by omega)
      have hcq1 := hown.cellAt (k := q + 1) (by omega)
      rw [nth_take (by omega)] at hcq hcq1
      obtain ⟨x, hx⟩ : ∃ x, x = nth (playL ws all k) q := ⟨_, rfl⟩
      obtain ⟨y, hy⟩ : ∃ y, y = nth (playL ws all k) (q + 1) := ⟨_, rfl⟩
      rw [← hx] at hcq
      rw [← hy] at hcq1
      have HX := Lib.hid hx
      have HY := Lib.hid hy
      subst e1
      clear hc hs hx hy hq hqt hw1 hw2 hown hbel ho1 hb1 hb hg1 hg2
      have hqI : (q : Int) < (n1 : Int) := by omega
      have hqI1 : (q : Int) + 1 < (n1 : Int) := by omega
      have swap : ∀ wx : World, Drawn wr wx → Calls Try.prog 83 #[.slice (some ⟨g, 0, none⟩) n1 c0, .int .i64 q, .int .i64 ((q : Int) + 1)] wx (fun e w' => Fresh wx w' e ((swapL (playL ws all k) q (q + 1)).take n1)) := fun wx hd => by
        rw [swapL_take (by omega) (by omega)]
        exact l1Swap_any _ _ _ q (q + 1) _ _ (hd.own HO.out).si (by omega) (by omega) (by omega) (by omega)
      have SW := Lib.hid swap
      clear swap
      have hwr : IntKind.i64.wrap ((q : Int) + 1) = (q : Int) + 1 := IntWalk.i64_in _ (by omega)
      have hn1 : ((q : Int) + 1).toNat = q + 1 := by omega
      have h01 : (0 : Int) ≤ (q : Int) + 1 := by omega
      cases all with
      | true =>
        go_wp2_with fail
        go_quiet (fail)
        clear hwr hn1 h01
        go_wp2_with fail
        refine (SW.out _ ⟨_, rfl⟩).mono ?_
        rintro e w3 ⟨A3, n3, c3, rfl, ho3, hb3⟩
        have e3 : n3 = n1 := by have := ho3.len; rw [List.length_take, swapL_len, playL_len] at this; omega
        subst e3
        have HO3 := Lib.hid ho3
        have HB3 := Lib.hid hb3
        clear ho3 hb3
        go_wp2
        go_roundw
        case rel => exact ⟨k + 1, _, _, by omega, by go_num, rfl, by rw [playL_hit HQ.out (.inl rfl)]; exact HO3.out.wide HB.out.size (Nat.le_refl _), (HB.out.drawnN _).trans (HB3.out.mono HB.out.size)⟩
        case measure => simp [intOf]; omega
      | false =>
        by_cases hxy : x < y
        · go_wp2_with fail
          go_quiet (fail)
          clear hwr hn1 h01
          go_wp2_with fail
          refine (SW.out _ ⟨_, rfl⟩).mono ?_
          rintro e w3 ⟨A3, n3, c3, rfl, ho3, hb3⟩
          have e3 : n3 = n1 := by have := ho3.len; rw [List.length_take, swapL_len, playL_len] at this; omega
          subst e3
          have HO3 := Lib.hid ho3
          have HB3 := Lib.hid hb3
          clear ho3 hb3
          go_wp2
          go_roundw
          case rel => exact ⟨k + 1, _, _, by omega, by go_num, rfl, by rw [playL_hit HQ.out (.inr (by have := HX.out; have := HY.out; omega))]; exact HO3.out.wide HB.out.size (Nat.le_refl _), (HB.out.drawnN _).trans (HB3.out.mono HB.out.size)⟩
          case measure => simp [intOf]; omega
        · go_wp2_with fail
          go_quiet (fail)
          clear hwr hn1 h01
          go_wp2
          go_roundw
          case rel =>
            have e0 : playL ws false (k + 1) = playL ws false k := playL_miss HQ.out (by
              have := HX.out
              have := HY.out
              rintro (h | h)
              · cases h
              · omega)
            exact ⟨k + 1, _, _, by omega, by go_num, rfl, by rw [e0]; exact HO.out.drawn ⟨_, rfl⟩, HB.out.drawnN _⟩
          case measure => simp [intOf]; omega
    · have hkn : k = n := by omega
      subst hkn
      clear hown hbel
      go_wp2
      go_ret
      exact ⟨A0, _, c0, rfl, HO.out, HB.out⟩

/-- What WordPerm (all) and DemazurePerm answer. -/
def playPerm (all : Bool) (a : Int) (ws : List Int) : List Int := if wordB a ws = true then (playL ws all ws.length).take a.toNat else []
theorem playPerm_no {all : Bool} {a : Int} {ws : List Int} (h : wordB a ws = false) : playPerm all a ws = [] := by unfold playPerm; rw [if_neg (by rw [h]; decide)]
theorem playPerm_yes {all : Bool} {m : Nat} {ws : List Int} (h : wordB (m : Int) ws = true) : playPerm all (m : Int) ws = (playL ws all ws.length).take m := by unfold playPerm; rw [if_pos h, Int.toNat_natCast]
theorem playPerm_small (all : Bool) (a : Int) (ws : List Int) : (playPerm all a ws).length ≤ 1099511627775 := by
  unfold playPerm
  split
  · rw [List.length_take, playL_len]; omega
  · simp
end Go.Proofs.Ytjpoliibljjhnaa

/-
  Contracts of the program's ComposePerms and InversePerm. Conditions: lengths below 2^40.
-/

namespace Go.Proofs.Ytjpoliibljjhnaa
open Go.RowKit

/-- arrayOf, whatever the list: an array, and whether it is a permutation's. -/
theorem arrayOf_x {A : Option Addr} {n : Nat} (c : Nat) {xs : List Int} {w : World} {b : Bool} (hb : isPermB xs = b) (hs : SI w A n xs) (hn : n ≤ 1099511627776) :
    Calls Try.prog 97 #[.slice A n c] w fun e w' => ∃ l, e = .returned (.tuple #[arr l, .bool b]) ∧ (b = true → l = fillA xs n) ∧ Below w.heap.size w w' := by
  subst hb
  refine (arrayOf_any A n c xs w hs hn).mono fun e w' ⟨he, hbl⟩ => ?_
  rcases he with ⟨h, he⟩ | ⟨h, he⟩
  · exact ⟨_, by rw [h]; exact he, fun _ => rfl, hbl⟩
  · exact ⟨[0, 0, 0, 0, 0, 0, 0], by rw [h]; exact he, (fun h' => by rw [h] at h'; cases h'), hbl⟩

end Go.Proofs.Ytjpoliibljjhnaa

/-
  Contracts of the program's lengths, codes and descents. Conditions: lengths below 2^40.
-/


namespace Go.Proofs.Ytjpoliibljjhnaa
open Go.RowKit

set_option maxHeartbeats 1000000 in
theorem inversionsAt_any (l : List Int) (i : Nat) (w : World) (hi : i < 7) :
    Calls Try.prog 225 #[arr l, .int .i64 i] w fun e w' => e = .returned (.int .i64 (codeCnt l i 7 : Int)) ∧ Below w.heap.size w w' := by
  have hb := Blk.new w 107 (arrC l)
  have HBk := Lib.hid hb
  have hci : (w.alloc (.cells (arrC l) 107)).cell? ⟨w.heap.size, i, none⟩ = some (.int .i64 (nth l i)) := (hb.cell _).trans (arrC_get l i hi)
  obtain ⟨y, hy⟩ : ∃ y, y = nth l i := ⟨_, rfl⟩
  rw [← hy] at hci
  have HY := Lib.hid hy
  clear hy hb
  by_cases h6 : i < 6
  · have hsl : ∀ wx, (Instr.sliceAt 107 (.pointer (some ⟨w.heap.size, 0, none⟩)) (some (.int .i64 ((i : Int) + 1))) none none).run Try.prog wx = .ok (.slice (some ⟨w.heap.size, i + 1, none⟩) (6 - i) (6 - i)) wx := fun wx => by
      have := sliceArr_from ⟨w.heap.size, 0, none⟩ (i + 1) (by omega) wx
      rw [if_neg (by omega), add_pt, Nat.zero_add, show 7 - (i + 1) = 6 - i from by omega] at this
      exact this
    go_enter Try.func225, Try.ntmps225
    go_wp2
    go_loop [5, 12] (fun v m => ∃ k : Nat, k ≤ 6 - i ∧ m = .int .i64 k ∧ v = .int .i64 (codeCnt l i (i + 1 + k) : Int))
      (fun _ m => 6 - (intOf m).toNat)
    case atStart => exact ⟨0, Nat.zero_le _, rfl, by rw [codeCnt_low l i (i + 1 + 0) (by omega)]; rfl⟩
    case round =>
      obtain ⟨k, hk, rfl, rfl⟩ := hrel
      by_cases hlt : k < 6 - i
      · have hck : (w.alloc (.cells (arrC l) 107)).cell? ⟨w.heap.size, i + 1 + k, none⟩ = some (.int .i64 (nth l (i + 1 + k))) := (HBk.out.cell _).trans (arrC_get l _ (by omega))
        obtain ⟨x, hx⟩ : ∃ x, x = nth l (i + 1 + k) := ⟨_, rfl⟩
        rw [← hx] at hck
        have HX := Lib.hid hx
        clear hx
        have hcl : (codeCnt l i (i + 1 + k) : Int) ≤ 100 := by have := codeCnt_le l i (i + 1 + k); omega
        obtain ⟨q, hq⟩ : ∃ q, q = codeCnt l i (i + 1 + k) := ⟨_, rfl⟩
        rw [← hq] at hcl ⊢
        have HQ := Lib.hid hq
        clear hq
        by_cases hxy : x < y
        · go_wp2
          go_round
          case rel =>
            have e1 := HX.out
            have e2 := HY.out
            have e3 := HQ.out
            refine ⟨k + 1, by omega, by go_num, ?_⟩
            rw [show i + 1 + (k + 1) = (i + 1 + k) + 1 from by omega, codeCnt_hit (by omega) (by omega), ← e3]
            go_num
          case measure => simp [intOf]; omega
        · go_wp2
          go_round
          case rel =>
            have e1 := HX.out
            have e2 := HY.out
            have e3 := HQ.out
            refine ⟨k + 1, by omega, by go_num, ?_⟩
            rw [show i + 1 + (k + 1) = (i + 1 + k) + 1 from by omega, codeCnt_miss (by omega), ← e3]
          case measure => simp [intOf]; omega
      · have hkn : k = 6 - i := by omega
        subst hkn
        go_wp2
        go_ret
        exact ⟨ret_int (by rw [show i + 1 + (6 - i) = 7 from by omega]), Below.alloc_self _ _⟩
  · have h6 : i = 6 := by omega
    subst h6
    have hsl : ∀ wx, (Instr.sliceAt 107 (.pointer (some ⟨w.heap.size, 0, none⟩)) (some (.int .i64 7)) none none).run Try.prog wx = .ok (.slice (some ⟨w.heap.size, 0, none⟩) 0 0) wx := fun wx =>
      sliceArr_from ⟨w.heap.size, 0, none⟩ 7 (by omega) wx
    go_enter Try.func225, Try.ntmps225
    go_wp2
    refine wp_loop_rounds 1 ?_
    rw [rounds_succ]
    go_wp2
    go_ret
    exact ⟨ret_int (by rw [codeCnt_low l 6 7 (by omega)]; rfl), Below.alloc_self _ _⟩

/-- The inversions of the first k places of an array. -/
def invSum (l : List Int) : Nat → Int
  | 0 => 0
  | k + 1 => invSum l k + (codeCnt l k 7 : Int)
theorem invSum_bounds (l : List Int) (k : Nat) : 0 ≤ invSum l k ∧ invSum l k ≤ 7 * (k : Int) := by
  induction k with
  | zero => exact ⟨Int.le_refl _, by simp [invSum]⟩
  | succ k ih =>
    have e : invSum l (k + 1) = invSum l k + (codeCnt l k 7 : Int) := rfl
    have := codeCnt_le l k 7
    omega
theorem codeCnt_congr {xs ys : List Int} {i : Nat} (hi : nth xs i = nth ys i) : ∀ j, (∀ t, t < j → nth xs t = nth ys t) → codeCnt xs i j = codeCnt ys i j := by
  intro j
  induction j with
  | zero => intro _; rfl
  | succ j ih =>
    intro h
    unfold codeCnt
    rw [ih (fun t ht => h t (by omega)), hi, h j (by omega)]
theorem codeCnt_fill {xs : List Int} (h : isPermP xs) (i : Nat) (hi : i < xs.length) : codeCnt (fillA xs xs.length) i 7 = codeCnt xs i xs.length := by
  have h7 := h.2.1
  have key : ∀ d, xs.length + d ≤ 7 → codeCnt (fillA xs xs.length) i (xs.length + d) = codeCnt xs i xs.length := by
    intro d
    induction d with
    | zero => intro _; exact codeCnt_congr (fillA_lt hi (by omega)) _ (fun t ht => fillA_lt ht (by omega))
    | succ d ih =>
      intro hd
      rw [show xs.length + (d + 1) = (xs.length + d) + 1 from by omega, codeCnt_miss, ih (by omega)]
      rw [fillA_ge (by omega) (by omega), fillA_lt hi (by omega)]
      have := h.range i hi
      omega
  have := key (7 - xs.length) (by omega)
  rwa [show xs.length + (7 - xs.length) = 7 from by omega] at this
theorem codeCnt_fill_ge {xs : List Int} (i : Nat) (hi : ¬ i < xs.length) (h7 : i < 7) : codeCnt (fillA xs xs.length) i 7 = 0 := by
  have key : ∀ d, i + 1 + d ≤ 7 → codeCnt (fillA xs xs.length) i (i + 1 + d) = 0 := by
    intro d
    induction d with
    | zero => intro _; exact codeCnt_low _ _ _ (by omega)
    | succ d ih =>
      intro hd
      rw [show i + 1 + (d + 1) = (i + 1 + d) + 1 from by omega, codeCnt_miss, ih (by omega)]
      rw [fillA_ge (by omega) (by omega), fillA_ge hi (by omega)]
      omega
  have := key (6 - i) (by omega)
  rwa [show i + 1 + (6 - i) = 7 from by omega] at this
theorem invSum_fill {xs : List Int} (h : isPermP xs) : invSum (fillA xs xs.length) 7 = lenL xs := by
  have h7 := h.2.1
  have k1 : ∀ k, k ≤ xs.length → invSum (fillA xs xs.length) k = sumN (codeL xs xs.length xs.length) k := by
    intro k
    induction k with
    | zero => intro _; rfl
    | succ k ih =>
      intro hk
      show invSum _ k + (codeCnt _ k 7 : Int) = sumN _ k + nth _ k
      rw [ih (by omega), codeL_nth _ _ _ _ (by omega), if_pos (by omega), codeCnt_fill h k (by omega)]
  have k2 : ∀ d, xs.length + d ≤ 7 → invSum (fillA xs xs.length) (xs.length + d) = lenL xs := by
    intro d
    induction d with
    | zero => intro _; exact k1 _ (Nat.le_refl _)
    | succ d ih =>
      intro hd
      show invSum _ (xs.length + d) + (codeCnt _ (xs.length + d) 7 : Int) = _
      rw [ih (by omega), codeCnt_fill_ge _ (by omega) (by omega)]
      simp
  have := k2 (7 - xs.length) (by omega)
  rwa [show xs.length + (7 - xs.length) = 7 from by omega] at this

set_option maxHeartbeats 1000000 in
theorem length_any (l : List Int) (w : World) :
    Calls Try.prog 189 #[arr l] w fun e w' => e = .returned (.int .i64 (invSum l 7)) ∧ Below w.heap.size w w' := by
  go_enter Try.func189, Try.ntmps189
  go_wp2
  go_loopw [3, 5] (fun v i wr => ∃ k : Nat, k ≤ 7 ∧ i = .int .i64 k ∧ v = .int .i64 (invSum l k) ∧ Blk wr w.heap.size 107 (arrC l) ∧ Below w.heap.size w wr)
    (fun _ i _ => 7 - (intOf i).toNat)
  case atStart => exact ⟨0, by omega, rfl, rfl, Blk.new w _ _, Below.alloc_self _ _⟩
  case round =>
    obtain ⟨k, hk, rfl, rfl, hA, hB⟩ := hrel
    have HA := Lib.hid hA
    have HB := Lib.hid hB
    clear hA hB
    by_cases hlt : k < 7
    · have hq := invSum_bounds l k
      have hc := codeCnt_le l k 7
      have e : invSum l (k + 1) = invSum l k + (codeCnt l k 7 : Int) := rfl
      obtain ⟨q, hqe⟩ : ∃ q, q = invSum l k := ⟨_, rfl⟩
      rw [← hqe] at hq e ⊢
      obtain ⟨hq1, hq2⟩ := hq
      have HE := Lib.hid e
      clear e hqe
      go_wp2_with (first | (refine wpList_load_blk rfl 107 (.tmp 1) rfl w.heap.size rfl 107 (arrC l) 7 3 HA.out Try.undArr Try.infoArr ?_) | (go_at_call 225; refine (inversionsAt_any l k wr hlt).mono ?_; rintro e w1 ⟨rfl, hb1⟩))
      go_roundw
      case rel => exact ⟨k + 1, by omega, by go_num, by rw [HE.out], HA.out.below hb1 HA.out.lt, HB.out.trans (hb1.mono HB.out.size)⟩
      case measure => simp [intOf]; omega
    · have hkn : k = 7 := by omega
      subst hkn
      go_wp2
      go_ret
      exact ⟨rfl, HB.out⟩

set_option maxHeartbeats 1000000 in
theorem implLength_any (A : Option Addr) (n c : Nat) (xs : List Int) (w : World) (hs : SI w A n xs) (hn : n ≤ 1099511627776) :
    Calls Try.prog 166 #[.slice A n c] w fun e w' => e = .returned (.int .i64 (lenPerm xs)) ∧ Below w.heap.size w w' := by
  have hl := hs.1
  cases hu : isPermB xs with
  | false =>
    have HE := Lib.hid (lenPerm_no hu)
    have HU := Lib.hid hu
    clear hu
    go_enter Try.func166, Try.ntmps166
    go_wp2_with fail
    refine (arrayOf_x c HU.out hs hn).mono ?_
    rintro e w1 ⟨l, rfl, -, hb1⟩
    go_wp2
    go_ret
    exact ⟨ret_int HE.out.symm, hb1.alloc hb1.size _⟩
  | true =>
    have HE := Lib.hid (lenPerm_yes hu)
    have HU := Lib.hid hu
    clear hu
    go_enter Try.func166, Try.ntmps166
    go_wp2_with fail
    refine (arrayOf_x c HU.out hs hn).mono ?_
    rintro e w1 ⟨l, rfl, hlf, hb1⟩
    have HF := Lib.hid (hlf rfl)
    have HL := Lib.hid hl
    clear hlf hl
    have hK := Blk.new w1 107 (arrC l)
    go_wp2_with (refine wpList_load_blk rfl 107 (.tmp 3) rfl w1.heap.size rfl 107 (arrC l) 7 3 hK Try.undArr Try.infoArr ?_)
    have hb2 : Below w.heap.size w (w1.alloc (.cells (arrC l) 107)) := hb1.alloc hb1.size _
    generalize w1.alloc (.cells (arrC l) 107) = w2 at *
    refine (length_any l w2).mono ?_
    rintro e w3 ⟨rfl, hb3⟩
    have hp := isPermB_P HU.out
    have e2 := invSum_fill hp
    have e1 := HF.out
    rw [HL.out] at e2
    rw [e1, e2]
    have HB3 := Lib.hid (hb2.trans (hb3.mono hb2.size))
    clear e1 e2 hb3 hb2 hK hp
    go_wp2
    go_ret
    exact ⟨ret_int HE.out.symm, HB3.out⟩

theorem isDescent_fact {x y : Int} : (decide (y < x)) = decide (x > y) := rfl
set_option maxHeartbeats 1000000 in
theorem isDescent_any (l : List Int) (i : Nat) (w : World) (hi : i < 6) :
    Calls Try.prog 193 #[arr l, .int .i64 i] w fun e w' => e = .returned (.bool (decide (nth l (i + 1) < nth l i))) ∧ Below w.heap.size w w' := by
  have hb := Blk.new w 107 (arrC l)
  have hci : (w.alloc (.cells (arrC l) 107)).cell? ⟨w.heap.size, i, none⟩ = some (.int .i64 (nth l i)) := (hb.cell _).trans (arrC_get l i (by omega))
  have hci1 : (w.alloc (.cells (arrC l) 107)).cell? ⟨w.heap.size, i + 1, none⟩ = some (.int .i64 (nth l (i + 1))) := (hb.cell _).trans (arrC_get l (i + 1) (by omega))
  obtain ⟨y, hy⟩ : ∃ y, y = nth l i := ⟨_, rfl⟩
  obtain ⟨x, hx⟩ : ∃ x, x = nth l (i + 1) := ⟨_, rfl⟩
  rw [← hy] at hci ⊢
  rw [← hx] at hci1 ⊢
  clear hx hy hb
  have hw1 : IntKind.i64.wrap ((i : Int) + 1) = (i : Int) + 1 := IntWalk.i64_in _ (by omega)
  have hn1 : ((i : Int) + 1).toNat = i + 1 := by omega
  have h01 : (0 : Int) ≤ (i : Int) + 1 := by omega
  have h7 : (i : Int) < 7 := by omega
  have h71 : (i : Int) + 1 < 7 := by omega
  obtain ⟨b, hbq⟩ : ∃ b, b = decide (x < y) := ⟨_, rfl⟩
  go_enter Try.func193, Try.ntmps193
  go_wp2_with fail
  go_quiet (fail)
  clear hw1 hn1 h01
  go_wp2
  go_ret
  exact ⟨rfl, (Below.alloc_self _ _).drawnN _⟩
end Go.Proofs.Ytjpoliibljjhnaa

/-
  Contracts of words and of what comes of them: the program's side. Conditions: lengths below 2^40.
-/


namespace Go.Proofs.Ytjpoliibljjhnaa
open Go.RowKit

set_option maxHeartbeats 800000 in
theorem isWord_any (a : Int) (A : Option Addr) (n c : Nat) (ws : List Int) (w : World) (hs : SI w A n ws) (hn : n ≤ 1099511627776) :
    Calls Try.prog 200 #[.int .i64 a, .slice A n c] w fun e w' => e = .returned (.bool (wordB a ws)) ∧ w = w' := by
  have hl := hs.1
  have HL := Lib.hid hl
  by_cases ha : 1 ≤ a ∧ a ≤ 7
  · obtain ⟨ha1, ha2⟩ := ha
    by_cases h60 : 60 < n
    · go_enter Try.func200, Try.ntmps200
      go_wp2_with fail
      refine (isPermSize_yes (by omega) (by omega) _).mono ?_
      rintro e w2 ⟨rfl, rfl⟩
      go_wp2
      go_ret
      exact ⟨ret_bool (wordB_false (fun h => by have := h.2.2.1; have := HL.out; omega)).symm, rfl⟩
    · clear hl
      go_enter Try.func200, Try.ntmps200
      go_wp2_with fail
      refine (isPermSize_yes (by omega) (by omega) _).mono ?_
      rintro e w2 ⟨rfl, rfl⟩
      go_wp2
      go_loop [17] (fun i => ∃ k : Nat, k ≤ n ∧ i = .int .i64 k ∧ ∀ j, j < k → 0 ≤ nth ws j ∧ nth ws j ≤ a - 2)
        (fun i => n - (intOf i).toNat)
      case atStart => exact ⟨0, Nat.zero_le _, rfl, fun j hj => absurd hj (by omega)⟩
      case round =>
        obtain ⟨k, hk, rfl, hall⟩ := hrel
        have HA := Lib.hid hall
        clear hall
        by_cases hlt : k < n
        · obtain ⟨b, o, rfl, hb, hc⟩ := hs.at_ (by omega)
          have hc1 := hc k hlt
          obtain ⟨x, hx⟩ : ∃ x, x = nth ws k := ⟨_, rfl⟩
          rw [← hx] at hc1
          have HX := Lib.hid hx
          clear hx hc hs
          by_cases hx0 : x < 0
          · go_wp2
            go_ret
            refine ⟨ret_bool (wordB_false (fun h => ?_)).symm, rfl⟩
            have := h.2.2.2 k (by have := HL.out; omega)
            rw [← HX.out] at this
            omega
          · by_cases hx1 : a - 2 < x
            · go_wp2
              go_ret
              refine ⟨ret_bool (wordB_false (fun h => ?_)).symm, rfl⟩
              have := h.2.2.2 k (by have := HL.out; omega)
              rw [← HX.out] at this
              omega
            · go_wp2
              go_round
              case rel => exact ⟨k + 1, by omega, by go_num, fun j hj => by
                rcases Nat.lt_or_ge j k with h | h
                · exact HA.out j h
                · obtain rfl : j = k := by omega
                  have e1 := HX.out
                  exact ⟨by omega, by omega⟩⟩
              case measure => simp [intOf]; omega
        · have hkn : k = n := by omega
          subst hkn
          go_wp2
          go_ret
          exact ⟨ret_bool (wordB_true ⟨ha1, ha2, by have := HL.out; omega, by rw [HL.out]; exact HA.out⟩).symm, rfl⟩
  · go_enter Try.func200, Try.ntmps200
    go_wp2_with fail
    refine (isPermSize_no (by omega) _).mono ?_
    rintro e w2 ⟨rfl, rfl⟩
    go_wp2
    go_ret
    exact ⟨ret_bool (wordB_false (fun h => ha ⟨h.1, h.2.1⟩)).symm, rfl⟩

set_option maxHeartbeats 2000000 in
theorem exchanged_any (l : List Int) (i j : Nat) (w : World) (hi : i < 7) (hj : j < 7) (hij : i ≠ j) (hl : l.length = 7) :
    Calls Try.prog 99 #[arr l, .int .i64 i, .int .i64 j] w fun e w' => e = .returned (arr (swapL l i j)) ∧ Below w.heap.size w w' := by
  have HL := Lib.hid hl
  clear hl
  obtain ⟨w1, hw1⟩ : ∃ w1 : World, w1 = (w.alloc (.cells (arrC l) 107)).alloc (.cells zeroC 107) := ⟨_, rfl⟩
  have hA : Blk w1 w.heap.size 107 (arrC l) := by rw [hw1]; exact (Blk.new w _ _).alloc _
  have hZ : Blk w1 (w.heap.size + 1) 107 zeroC := by
    rw [hw1]
    have := Blk.new (w.alloc (.cells (arrC l) 107)) 107 zeroC
    simp only [World.size_alloc] at this
    exact this
  have hB : Below w.heap.size w w1 := by rw [hw1]; exact ((Below.alloc_self _ _).alloc (by simp) _)
  have HA := Lib.hid hA
  have HZ := Lib.hid hZ
  have HB := Lib.hid hB
  have HW := Lib.hid hw1
  clear hA hZ hB hw1
  have hci := (HA.out.cell i).trans (arrC_get l i hi)
  have hcj := (HA.out.cell j).trans (arrC_get l j hj)
  have hfi := HA.out.frozen i
  obtain ⟨x, hx⟩ : ∃ x, x = nth l i := ⟨_, rfl⟩
  obtain ⟨y, hy⟩ : ∃ y, y = nth l j := ⟨_, rfl⟩
  rw [← hx] at hci
  rw [← hy] at hcj
  have HX := Lib.hid hx
  have HY := Lib.hid hy
  clear hx hy
  have h1 := HA.out.set_ i (.int .i64 y)
  have hcj2 : (w1.setCell ⟨w.heap.size, i, none⟩ (.int .i64 y)).cell? ⟨w.heap.size, j, none⟩ = some (.int .i64 y) := (World.cell?_setCell_other w1 _ _ _ (by intro e; injection e with _ e2; exact hij e2)).trans hcj
  have hfj2 := h1.frozen j
  have h2 := h1.set_ j (.int .i64 x)
  have hz2 := (HZ.out.far (p := ⟨w.heap.size, i, none⟩) (by show w.heap.size + 1 ≠ w.heap.size; omega) (.int .i64 y)).far (p := ⟨w.heap.size, j, none⟩) (by show w.heap.size + 1 ≠ w.heap.size; omega) (.int .i64 x)
  have hb2 := (HB.out.setCell (p := ⟨w.heap.size, i, none⟩) (Nat.le_refl _) (.int .i64 y)).setCell (p := ⟨w.heap.size, j, none⟩) (Nat.le_refl _) (.int .i64 x)
  have HS := Lib.hid h2
  have HZ2 := Lib.hid hz2
  have HB2 := Lib.hid hb2
  clear h1 h2 hz2 hb2
  have hiI : (i : Int) < 7 := by omega
  have hjI : (j : Int) < 7 := by omega
  have hij' : ¬ j = i := fun e => hij e.symm
  go_enter Try.func99, Try.ntmps99
  go_wp2
  rw [← HW.out]
  go_region
  have HS3 : Hid (Blk ((w1.setCell ⟨w.heap.size, i, none⟩ (.int .i64 y)).setCell ⟨w.heap.size, j, none⟩ (.int .i64 x)).drew w.heap.size 107 (arrC (swapL l i j))) := Lib.hid (by
    have := HS.out
    rw [arrC_set l i hi y HL.out, arrC_set _ j hj x (by simp [HL.out])] at this
    have e1 := HX.out
    have e2 := HY.out
    unfold swapL
    rw [← e1, ← e2]
    exact this)
  go_wp2_with (first | (refine wpList_load_blk rfl 107 (.tmp 3) rfl w.heap.size rfl 107 (arrC (swapL l i j)) 7 3 HS3.out Try.undArr Try.infoArr ?_) | (refine wpList_store_blk rfl 107 (.tmp 6) (.tmp 17) rfl (w.heap.size + 1) (arrC (swapL l i j)) rfl rfl 107 zeroC HZ2.out Try.infoArr rfl (arrC_one _) ?_; intro w3 hR3 hg3))
  refine bodyPost_ret (results_blk Try.results99 _ _ _ _ _ 7 3 rfl hR3 Try.undArr Try.infoArr) rfl ?_
  exact ⟨rfl, HB2.out.drew.grown hg3 HB2.out.size (by rintro _ ⟨⟩; omega)⟩

theorem swapL_nth {l : List Int} {i j t : Nat} (_hi : i < l.length) (_hj : j < l.length) (ht : t < l.length) : nth (swapL l i j) t = if t = j then nth l i else if t = i then nth l j else nth l t := by
  rw [nth_get (by rw [swapL_len]; exact ht)]
  unfold swapL
  rw [List.getElem_set]
  by_cases h1 : j = t
  · rw [if_pos h1, if_pos h1.symm]
  · rw [if_neg h1, if_neg (fun h => h1 h.symm), List.getElem_set]
    by_cases h2 : i = t
    · rw [if_pos h2, if_pos h2.symm]
    · rw [if_neg h2, if_neg (fun h => h2 h.symm), nth_get ht]
/-- The numbers of an array stay apart. -/
def Apart7 (l : List Int) : Prop := ∀ s t, s < 7 → t < 7 → nth l s = nth l t → s = t
theorem Apart7.swap {l : List Int} {i j : Nat} (h : Apart7 l) (hl : l.length = 7) (hi : i < 7) (hj : j < 7) : Apart7 (swapL l i j) := by
  intro s t hs ht e
  rw [swapL_nth (by omega) (by omega) (by omega), swapL_nth (by omega) (by omega) (by omega)] at e
  by_cases s1 : s = j
  · rw [if_pos s1] at e
    by_cases t1 : t = j
    · omega
    · rw [if_neg t1] at e
      by_cases t2 : t = i
      · rw [if_pos t2] at e; have := h _ _ hi hj e; omega
      · rw [if_neg t2] at e; have := h _ _ hi ht e; omega
  · rw [if_neg s1] at e
    by_cases s2 : s = i
    · rw [if_pos s2] at e
      by_cases t1 : t = j
      · rw [if_pos t1] at e; have := h _ _ hj hi e; omega
      · rw [if_neg t1] at e
        by_cases t2 : t = i
        · omega
        · rw [if_neg t2] at e; have := h _ _ hj ht e; omega
    · rw [if_neg s2] at e
      by_cases t1 : t = j
      · rw [if_pos t1] at e; have := h _ _ hs hi e; omega
      · rw [if_neg t1] at e
        by_cases t2 : t = i
        · rw [if_pos t2] at e; have := h _ _ hs hj e; omega
        · rw [if_neg t2] at e; exact h _ _ hs ht e
theorem idL_apart : Apart7 (idL 7) := by
  intro s t hs ht e
  rw [nth_get (by rw [idL_len]; exact hs), nth_get (by rw [idL_len]; exact ht)] at e
  simp only [idL, List.getElem_map, List.getElem_range] at e
  omega
theorem playL_apart (ws : List Int) (all : Bool) (hr : ∀ k, k < ws.length → (nth ws k).toNat + 1 < 7) : ∀ k, k ≤ ws.length → Apart7 (playL ws all k) := by
  intro k
  induction k with
  | zero => intro _; exact idL_apart
  | succ k ih =>
    intro hk
    unfold playL
    have := hr k (by omega)
    split
    · exact (ih (by omega)).swap (playL_len _ _ _) (by omega) (by omega)
    · exact ih (by omega)

set_option maxHeartbeats 2000000 in
theorem implWord_any (a : Int) (A : Option Addr) (n c : Nat) (ws : List Int) (w : World) (hs : SI w A n ws) (hn : n ≤ 1099511627776) :
    Calls Try.prog 121 #[.int .i64 a, .slice A n c] w fun e w' => Fresh w w' e (playPerm true a ws) := by
  have hw := isWord_any a A n c ws w hs hn
  cases hu : wordB a ws with
  | false =>
    rw [hu] at hw
    have HE := Lib.hid (playPerm_no (all := true) hu)
    clear hu
    go_enter Try.func121, Try.ntmps121
    go_wp2_with fail
    refine hw.mono ?_
    rintro e w1 ⟨rfl, rfl⟩
    clear hw
    go_wp2
    go_ret
    rw [HE.out]
    exact Fresh.nil_ret (Below.refl _ _)
  | true =>
    rw [hu] at hw
    obtain ⟨m, rfl⟩ : ∃ m : Nat, a = (m : Int) := ⟨a.toNat, by have := (wordB_P hu).1; omega⟩
    have HE := Lib.hid (playPerm_yes (all := true) hu)
    have HU := Lib.hid (wordB_P hu)
    have HL := Lib.hid hs.1
    have hm7 : m ≤ 7 := by have := HU.out.2.1; omega
    clear hu
    go_enter Try.func121, Try.ntmps121
    go_wp2_with fail
    refine hw.mono ?_
    rintro e w1 ⟨rfl, rfl⟩
    clear hw
    go_wp2_with fail
    refine (identityArray_any _).mono ?_
    rintro e w1 ⟨rfl, hb1⟩
    have hK : Blk (w1.alloc (.cells #[.int .i64 0, .int .i64 1, .int .i64 2, .int .i64 3, .int .i64 4, .int .i64 5, .int .i64 6] 107)) w1.heap.size 107 (arrC (playL ws true 0)) := Blk.new w1 _ _
    go_wp2
    have hb2 := hb1.alloc hb1.size (.cells #[.int .i64 0, .int .i64 1, .int .i64 2, .int .i64 3, .int .i64 4, .int .i64 5, .int .i64 6] 107)
    have hgG : w.heap.size ≤ w1.heap.size := hb1.size
    obtain ⟨g, hg⟩ : ∃ g, g = w1.heap.size := ⟨_, rfl⟩
    rw [← hg] at hK hgG ⊢
    generalize w1.alloc (.cells #[.int .i64 0, .int .i64 1, .int .i64 2, .int .i64 3, .int .i64 4, .int .i64 5, .int .i64 6] 107) = w2 at *
    clear hg
    go_loopw [15] (fun i wr => ∃ k : Nat, k ≤ n ∧ i = .int .i64 k ∧ Blk wr g 107 (arrC (playL ws true k)) ∧ Below w.heap.size w wr)
      (fun i _ => n - (intOf i).toNat)
    case atStart => exact ⟨0, Nat.zero_le _, rfl, hK, hb2⟩
    case round =>
      obtain ⟨k, hk, rfl, hA, hbel⟩ := hrel
      have HA := Lib.hid hA
      have HB := Lib.hid hbel
      by_cases hlt : k < n
      · obtain ⟨b, o, e1, hb, hc⟩ := (hs.below hbel (Nat.le_refl _)).at_ (by omega)
        have hc1 := hc k hlt
        obtain ⟨hw1, hw2⟩ := HU.out.2.2.2 k (by have := HL.out; omega)
        obtain ⟨q, hq⟩ : ∃ q : Nat, nth ws k = (q : Int) := ⟨(nth ws k).toNat, by omega⟩
        have hqt : (nth ws k).toNat = q := by omega
        rw [hq] at hc1
        have hq2 : q + 1 < m := by omega
        have HQ := Lib.hid hqt
        subst e1
        clear hc hs hq hqt hw1 hw2 hA hbel hK hb2 hb1 hb
        have hsw : Calls Try.prog 99 #[arr (playL ws true k), .int .i64 q, .int .i64 ((q : Int) + 1)] wr (fun e w' => e = .returned (arr (swapL (playL ws true k) q (q + 1))) ∧ Below wr.heap.size wr w') :=
          exchanged_any _ q (q + 1) wr (by omega) (by omega) (by omega) (playL_len _ _ _)
        have HSW := Lib.hid hsw
        clear hsw
        go_wp2_with (first | (refine wpList_load_blk rfl 107 (.tmp 5) rfl g rfl 107 (arrC (playL ws true k)) 7 3 HA.out Try.undArr Try.infoArr ?_) | fail)
        refine HSW.out.mono ?_
        rintro e w4 ⟨rfl, hb4⟩
        have HA4 := Lib.hid (HA.out.below hb4 HA.out.lt)
        have HB4 := Lib.hid (HB.out.trans (hb4.mono HB.out.size))
        clear hb4
        go_wp2_with (refine wpList_store_blk rfl 107 (.tmp 5) (.tmp 23) rfl g (arrC (swapL (playL ws true k) q (q + 1))) rfl rfl 107 (arrC (playL ws true k)) HA4.out Try.infoArr rfl (arrC_one _) ?_; intro w5 hR5 hg5)
        go_roundw
        case rel => exact ⟨k + 1, by omega, by go_num, by rw [playL_hit HQ.out (.inl rfl)]; exact hR5, HB4.out.grown hg5 HB4.out.size (by rintro _ ⟨⟩; exact hgG)⟩
        case measure => simp [intOf]; omega
      · have hkn : k = n := by omega
        subst hkn
        clear hA hbel hK hb2 hb1
        go_wp2_with (first | (refine wpList_load_blk rfl 107 (.tmp 5) rfl g rfl 107 (arrC (playL ws true k)) 7 3 HA.out Try.undArr Try.infoArr ?_) | fail)
        refine (list_any (playL ws true k) m wr (playL_len _ _ _) hm7).mono ?_
        rintro e w4 ⟨A4, n4, c4, rfl, ho4, hb4⟩
        go_wp2
        go_ret
        rw [HE.out, HL.out]
        exact Fresh.after HB.out ⟨A4, n4, c4, rfl, ho4, hb4⟩

end Go.Proofs.Ytjpoliibljjhnaa

/-
  All permutations of at most five numbers, listed: plain facts that the kernel reckons over the list. Conditions: the length is at most 5.
-/


namespace Go.Proofs.Ytjpoliibljjhnaa
open Go.RowKit

/-- The beginnings of k numbers below n, all different. -/
def begins (n : Nat) : Nat → List (List Int)
  | 0 => [[]]
  | k + 1 => (begins n k).flatMap fun p => ((List.range n).filter (fun (v : Nat) => !hasB p (v : Int))).map (fun (v : Nat) => p ++ [(v : Int)])
theorem begins_all {xs : List Int} (h : isPermP xs) : ∀ k, k ≤ xs.length → xs.take k ∈ begins xs.length k := by
  intro k
  induction k with
  | zero => intro _; simp [begins]
  | succ k ih =>
    intro hk
    obtain ⟨h1, h2, h3⟩ := h.2.2 k (by omega)
    unfold begins
    rw [List.mem_flatMap]
    refine ⟨xs.take k, ih (by omega), ?_⟩
    rw [List.mem_map]
    refine ⟨(nth xs k).toNat, ?_, ?_⟩
    · rw [List.mem_filter]
      refine ⟨List.mem_range.2 (by omega), ?_⟩
      rw [show (((nth xs k).toNat : Nat) : Int) = nth xs k from by omega, h3]; rfl
    · rw [take_nth (by omega), show (((nth xs k).toNat : Nat) : Int) = nth xs k from by omega]
def perms5 : List (List Int) := begins 1 1 ++ begins 2 2 ++ begins 3 3 ++ begins 4 4 ++ begins 5 5
theorem perms5_all {xs : List Int} (h : isPermP xs) (h5 : xs.length ≤ 5) : xs ∈ perms5 := by
  have h1 := h.1
  have := begins_all h xs.length (Nat.le_refl _)
  rw [List.take_length] at this
  unfold perms5
  have hc : xs.length = 1 ∨ xs.length = 2 ∨ xs.length = 3 ∨ xs.length = 4 ∨ xs.length = 5 := by omega
  simp only [List.mem_append]
  rcases hc with e | e | e | e | e <;> rw [e] at this <;> simp [this]
theorem perm_cases {p : List Int → Bool} (hp : perms5.all p = true) {xs : List Int} (h : isPermP xs) (h5 : xs.length ≤ 5) : p xs = true :=
  List.all_eq_true.1 hp xs (perms5_all h h5)

/-- A swap of neighbours leaves a permutation. -/
theorem swap_perm {xs : List Int} (h : isPermP xs) (h5 : xs.length ≤ 5) {i : Nat} (hi : i + 1 < xs.length) : isPermP (swapL xs i (i + 1)) := by
  have := perm_cases (p := fun xs => (List.range (xs.length - 1)).all fun i => isPermB (swapL xs i (i + 1))) (by decide +kernel) h h5
  simp only [List.all_eq_true, List.mem_range] at this
  exact isPermB_P (this i (by omega))
/-- At a descent the length goes down by one. -/
theorem swap_down {xs : List Int} (h : isPermP xs) (h5 : xs.length ≤ 5) {i : Nat} (hi : i + 1 < xs.length) (hd : nth xs (i + 1) < nth xs i) : lenL (swapL xs i (i + 1)) + 1 = lenL xs := by
  have := perm_cases (p := fun xs => (List.range (xs.length - 1)).all fun i => !decide (nth xs (i + 1) < nth xs i) || decide (lenL (swapL xs i (i + 1)) + 1 = lenL xs)) (by decide +kernel) h h5
  simp only [List.all_eq_true, List.mem_range] at this
  have h2 := this i (by omega)
  simpa [hd] using h2
/-- Whatever is longer than nothing has a descent. -/
theorem has_descent {xs : List Int} (h : isPermP xs) (h5 : xs.length ≤ 5) (hl : 0 < lenL xs) : 0 < (descL xs (xs.length - 1)).length := by
  have := perm_cases (p := fun xs => !decide (0 < lenL xs) || decide (0 < (descL xs (xs.length - 1)).length)) (by decide +kernel) h h5
  simpa [hl] using this
theorem len_small {xs : List Int} (h : isPermP xs) (h5 : xs.length ≤ 5) : lenL xs ≤ 10 := by
  have := perm_cases (p := fun xs => decide (lenL xs ≤ 10)) (by decide +kernel) h h5
  simpa using this
/-- Each number of the list of descents is one. -/
theorem descL_mem (xs : List Int) : ∀ k, ∀ j, j < (descL xs k).length → ∃ i : Nat, i < k ∧ nth (descL xs k) j = (i : Int) ∧ nth xs (i + 1) < nth xs i := by
  intro k
  induction k with
  | zero => intro j hj; simp [descL] at hj
  | succ k ih =>
    intro j hj
    by_cases hd : nth xs (k + 1) < nth xs k
    · rw [descL_hit hd] at hj ⊢
      rw [List.length_append, List.length_singleton] at hj
      rcases Nat.lt_or_ge j (descL xs k).length with hlt | hge
      · obtain ⟨i, h1, h2, h3⟩ := ih j hlt
        exact ⟨i, by omega, by rw [nth_get (by simp; omega), List.getElem_append_left hlt, ← nth_get hlt]; exact h2, h3⟩
      · have e : j = (descL xs k).length := by omega
        subst e
        exact ⟨k, by omega, by rw [nth_get (by simp)]; simp, hd⟩
    · rw [descL_miss hd] at hj ⊢
      obtain ⟨i, h1, h2, h3⟩ := ih j hj
      exact ⟨i, by omega, h2, h3⟩
theorem id_perm {n : Nat} (h1 : 1 ≤ n) (h7 : n ≤ 7) : isPermP (idL n) := by
  have hc : n = 1 ∨ n = 2 ∨ n = 3 ∨ n = 4 ∨ n = 5 ∨ n = 6 ∨ n = 7 := by omega
  rcases hc with rfl | rfl | rfl | rfl | rfl | rfl | rfl <;> exact isPermB_P (by decide +kernel)
/-- What comes of a word is a permutation. -/
theorem play_perm {ws : List Int} {m : Nat} (hw : wordP (m : Int) ws) (h5 : m ≤ 5) (all : Bool) : ∀ k, k ≤ ws.length → isPermP ((playL ws all k).take m) := by
  intro k
  have h1 : 1 ≤ m := by have := hw.1; omega
  induction k with
  | zero =>
    intro _
    show isPermP ((idL 7).take m)
    rw [idL_take (by omega)]
    exact id_perm h1 (by omega)
  | succ k ih =>
    intro hk
    obtain ⟨hw1, hw2⟩ := hw.2.2.2 k (by omega)
    unfold playL
    split
    · rw [swapL_take (by omega) (by omega)]
      have hl : ((playL ws all k).take m).length = m := by rw [List.length_take, playL_len]; omega
      exact swap_perm (ih (by omega)) (by omega) (by omega)
    · exact ih (by omega)
end Go.Proofs.Ytjpoliibljjhnaa

/-
  Permutations of up to 7 with two places exchanged are permutations; what comes of a word is one. No conditions but those named.
-/




namespace Go.Proofs.Ytjpoliibljjhnaa
open Go.RowKit

theorem pp_ne {xs : List Int} (h : isPermP xs) {j k : Nat} (hj : j < k) (hk : k < xs.length) : nth xs j ≠ nth xs k := fun e => by
  obtain ⟨_, _, hb⟩ := h.2.2 k hk
  have : nth xs k ∈ xs.take k := by
    rw [← e, nth_get (by omega)]
    refine List.mem_iff_getElem.2 ⟨j, by simp; omega, by simp⟩
  rw [hasB, decide_eq_false_iff_not] at hb
  exact hb this
theorem pp_ne' {xs : List Int} (h : isPermP xs) {j k : Nat} (hjk : j ≠ k) (hj : j < xs.length) (hk : k < xs.length) : nth xs j ≠ nth xs k := by
  rcases Nat.lt_or_gt_of_ne hjk with e | e
  · exact pp_ne h e hk
  · exact (pp_ne h e hj).symm
theorem pp_of {xs : List Int} (h1 : 1 ≤ xs.length) (h7 : xs.length ≤ 7) (hr : ∀ k, k < xs.length → 0 ≤ nth xs k ∧ nth xs k ≤ (xs.length : Int) - 1) (hd : ∀ j k, j < k → k < xs.length → nth xs j ≠ nth xs k) : isPermP xs := by
  refine ⟨h1, h7, fun k hk => ⟨(hr k hk).1, (hr k hk).2, ?_⟩⟩
  rw [hasB, decide_eq_false_iff_not]
  intro hm
  obtain ⟨j, hj, e⟩ := List.mem_iff_getElem.1 hm
  simp only [List.length_take] at hj
  rw [List.getElem_take] at e
  refine hd j k (by omega) hk ?_
  rw [nth_get (by omega), e]
theorem swap_pp {xs : List Int} (h : isPermP xs) {i j : Nat} (hij : i < j) (hj : j < xs.length) : isPermP (swapL xs i j) := by
  have hl := swapL_len xs i j
  refine pp_of (by rw [hl]; exact h.1) (by rw [hl]; exact h.2.1) (fun k hk => ?_) (fun s t hst ht => ?_)
  · rw [hl] at hk ⊢
    rw [swapL_nth (by omega) hj hk]
    split
    · exact ⟨(h.2.2 i (by omega)).1, (h.2.2 i (by omega)).2.1⟩
    · split
      · exact ⟨(h.2.2 j hj).1, (h.2.2 j hj).2.1⟩
      · exact ⟨(h.2.2 k hk).1, (h.2.2 k hk).2.1⟩
  · rw [hl] at ht
    rw [swapL_nth (by omega) hj (by omega), swapL_nth (by omega) hj ht]
    repeat' split
    all_goals first
      | omega
      | exact pp_ne' h (by omega) (by omega) (by omega)
theorem fill_swapG {xs : List Int} {i j : Nat} (hij : i < j) (hj : j < xs.length) (h7 : xs.length ≤ 7) : swapL (fillA xs xs.length) i j = fillA (swapL xs i j) xs.length := by
  apply List.ext_getElem (by rw [swapL_len, fillA_len, fillA_len])
  intro t h1 h2
  rw [swapL_len, fillA_len] at h1
  rw [← nth_get (by rw [swapL_len, fillA_len]; exact h1), ← nth_get (by rw [fillA_len]; exact h1), swapL_nth (by rw [fillA_len]; omega) (by rw [fillA_len]; omega) (by rw [fillA_len]; exact h1), fillA_lt (show i < xs.length by omega) (by omega), fillA_lt hj (by omega), fillA_nth xs _ t h1, fillA_nth (swapL xs i j) _ t h1]
  by_cases ht : t < xs.length
  · rw [if_pos ht, if_pos ht, swapL_nth (by omega) hj ht]
  · rw [if_neg ht, if_neg ht, if_neg (by omega), if_neg (by omega)]
theorem play_pp {ws : List Int} {m : Nat} (hw : wordP (m : Int) ws) (all : Bool) : ∀ k, k ≤ ws.length → isPermP ((playL ws all k).take m) := by
  intro k
  have h1 : 1 ≤ m := by have := hw.1; omega
  have h7 : m ≤ 7 := by have := hw.2.1; omega
  induction k with
  | zero =>
    intro _
    show isPermP ((idL 7).take m)
    rw [idL_take (by omega)]
    exact id_perm h1 (by omega)
  | succ k ih =>
    intro hk
    obtain ⟨hw1, hw2⟩ := hw.2.2.2 k (by omega)
    unfold playL
    split
    · rw [swapL_take (by omega) (by omega)]
      have hl : ((playL ws all k).take m).length = m := by rw [List.length_take, playL_len]; omega
      exact swap_pp (ih (by omega)) (by omega) (by omega)
    · exact ih (by omega)
end Go.Proofs.Ytjpoliibljjhnaa

/-
  Slices of slices of numbers that a call owns: a list put in, a list more behind them, made of nothing. Conditions: lengths below 2^40.
-/

namespace Go.Proofs.Ytjpoliibljjhnaa
open Go.RowKit

theorem row1_eq {w : World} {lo : Nat} {t : TypeId} {v : Value} {n : Nat} {xs ys : List Value} (h : w.ownsRow lo t 1 v n xs) (e : xs = ys) : w.ownsRow lo t 1 v n ys := e ▸ h
theorem OwnL.put {w : World} {lo hi g n c : Nat} {ls : List (List Int)} (h : OwnL w lo hi (some ⟨g, 0, none⟩) n c ls) {k : Nat} (hk : k < n) {lo' hi' n' c' : Nat} {A' : Option Addr} {xs : List Int} (hx : Own w lo' hi' A' n' c' xs)
    (h1 : hi ≤ lo') (h2 : lo ≤ lo') (h3 : hi ≤ hi') :
    OwnL (w.setCell ⟨g, k, none⟩ (.slice A' n' c')) lo hi' (some ⟨g, 0, none⟩) n c (ls.set k xs) ∧ w.grownBy (w.setCell ⟨g, k, none⟩ (.slice A' n' c')) (some g) := by
  obtain ⟨E, hl, ho, hh, he, hne, hdd⟩ := h
  have hgl := hh g rfl
  obtain ⟨o1, gg⟩ := ho.stored k (.slice A' n' c')
  refine ⟨⟨fun j => if j = k then (A', n', c') else E j, by simpa using hl, ?_, fun b hb => by have := hh b hb; omega, fun j hj => ?_, fun j b hj hb => ?_, fun i j b hij hj hb => ?_⟩, gg⟩
  · exact row1_eq o1 (heads_set E hk (A', n', c'))
  · dsimp only
    rw [li_set (by omega)]
    by_cases e : j = k
    · rw [if_pos e, if_pos e]
      exact (hx.grown gg (fun b hb => .inl (by injection hb with hb; omega))).wide h2 (Nat.le_refl _)
    · rw [if_neg e, if_neg e]
      exact ((he j hj).kept gg (fun b hb => hne j b hj hb)).wide (Nat.le_refl _) h3
  · dsimp only at hb
    by_cases e : j = k
    · rw [if_pos e] at hb
      have := hx.lt b hb
      intro e2; injection e2 with e2; dsimp only at e2; omega
    · rw [if_neg e] at hb
      exact hne j b hj hb
  · dsimp only at hb ⊢
    by_cases e : i = k
    · rw [if_pos e] at hb
      rw [if_neg (by omega)]
      intro e2
      have := hx.lt b hb
      have := (he j hj).2 b e2
      omega
    · rw [if_neg e] at hb
      by_cases e' : j = k
      · rw [if_pos e']
        intro e2
        have := hx.lt b e2
        have := (he i (by omega)).2 b hb
        omega
      · rw [if_neg e']
        exact hdd i j b hij hj hb
theorem OwnL.zeros {w : World} {lo hi g n c : Nat} (h : w.ownsRow lo 22 1 (.slice (some ⟨g, 0, none⟩) n c) n (List.replicate n (.slice none 0 0))) (hlt : g < hi) : OwnL w lo hi (some ⟨g, 0, none⟩) n c (List.replicate n []) := by
  refine ⟨fun _ => (none, 0, 0), by simp, row1_eq h ?_, fun b hb => by simp [Value.ownBlock] at hb; omega, fun j hj => ?_, fun j b hj hb => by simp [sv, Value.ownBlock] at hb, fun i j b _ _ hb => by simp [sv, Value.ownBlock] at hb⟩
  · apply List.ext_getElem (by simp [heads])
    intro j h1 h2
    simp [heads, sv]
  · have e : li (List.replicate n ([] : List Int)) j = [] := by rw [li_get (by simpa using hj)]; simp
    rw [e]
    exact Own.nil _ _ _
theorem Try.infoLs : (Try.prog.info? 22).map (fun i => (i.zero, i.size, i.bytes)) = some (some (.slice none 0 0), 1, 24) := by kernel_rfl
/-- 'make([][]int, n)'. -/
theorem wpList_make_lists {ops : Array Oper} {rest : List Oper} {o : Oper} {a : Act} {w : World} {Q : Exit → Act → World → Prop} (hgd : o.guard = none) (l c : Operand) (ho : o.op = .makeSlice 23 l c)
    (n : Nat) (hl : a.eval l = .int .i64 n) (hc : a.eval c = .int .i64 n) (hn : n ≤ 1099511627776)
    (hK : ∀ w', OwnL w' w.heap.size w'.heap.size (some ⟨w.heap.size, 0, none⟩) n n (List.replicate n []) → Below w.heap.size w w' → wpList Try.prog ops Q rest (a.put o.dst (.slice (some ⟨w.heap.size, 0, none⟩) n n)) w') :
    wpList Try.prog ops Q (o :: rest) a w := by
  obtain ⟨i0, hi, hz0, hz1, hz2⟩ := info_parts Try.infoLs
  refine wpList_make_full w hgd l c 23 ho w.heap.size 22 i0 (.slice none 0 0) 1 Try.underlying23 hi hz0 hz1 .i64 .i64 n n n hl hc rfl rfl (by rw [hz2]; omega) (by unfold maxLen; omega) (Nat.le_refl _) ?_
  intro w1 ho1 hg1
  have e : (madeCells (Value.slice none 0 0).cells (n * 1)).toList = List.replicate n (.slice none 0 0) := by
    rw [show (Value.slice none 0 0).cells = #[Value.slice none 0 0] from rfl, Nat.mul_one, toList_madeCells_one]
  rw [e] at ho1
  exact hK w1 (OwnL.zeros ho1 (ho1.lt w.heap.size rfl).2) (grow_below hg1 (Nat.le_refl _) (by intro k hk; cases hk))
/-- 'out = append(out, x)' where x is a list of the call's own that lies behind them. -/
theorem wpList_appendL {ops : Array Oper} {rest : List Oper} {o : Oper} {a : Act} {w : World} {Q : Exit → Act → World → Prop} (hgd : o.guard = none) (s x : Operand)
    (ho : o.op = .call { callee := .builtin .append, args := #[s, x], argTypes := #[23, 23] })
    (lo hi : Nat) (A : Option Addr) (n c : Nat) (ls : List (List Int)) (lo2 hi2 : Nat) (A3 : Option Addr) (n3 c3 : Nat) (xs : List Int) (hs : a.eval s = .slice A n c) (hx : a.eval x = .slice (some ⟨w.heap.size, 0, none⟩) 1 1)
    (hown : OwnL w lo hi A n c ls) (hxs : Own w lo2 hi2 A3 n3 c3 xs) (hlo : lo ≤ lo2) (hd : hi ≤ lo2) (h1 : hi2 ≤ w.heap.size) (h2 : hi ≤ w.heap.size) (h3 : lo ≤ w.heap.size) (hn : n ≤ 1099511627776)
    (hK : ∀ A' c' w', OwnL w' lo w'.heap.size A' (n + 1) c' (ls ++ [xs]) → Below lo w w' → wpList Try.prog ops Q rest (a.put o.dst (.slice A' (n + 1) c')) w') :
    wpList Try.prog ops Q (o :: rest) a (w.alloc (.cells #[.slice A3 n3 c3] 22)) := by
  obtain ⟨i0, hi0, hz0, hz1, hz2⟩ := info_parts Try.infoLs
  obtain ⟨E, hE⟩ := hown
  have hE' : OwnLE E (w.alloc (.cells #[.slice A3 n3 c3] 22)) lo hi A n c ls := hE.below ((Below.refl w.heap.size w).alloc (Nat.le_refl _) _) h2
  have hx' : Own (w.alloc (.cells #[.slice A3 n3 c3] 22)) lo2 hi2 A3 n3 c3 xs := hxs.below ((Below.refl w.heap.size w).alloc (Nat.le_refl _) _) h1
  refine Go.wpList_append_own_at _ hgd s x 23 ho lo 22 i0 (.slice none 0 0) 1 24 Try.underlying23 hi0 hz0 hz1 hz2 rfl (by decide) _ _ _ hs hE'.2.1 ⟨w.heap.size, 0, none⟩ 1 1 [.slice A3 n3 c3] hx rfl ?_ ?_ (by unfold maxLen; omega) (by omega) (by simp; omega) ?_
  · intro j u hj
    match j, hj with
    | 0, hj =>
      simp at hj
      subst hj
      rw [add_pt]
      exact (Blk.new w 22 #[.slice A3 n3 c3]).cell 0
  · intro u hu
    simp at hu
    subst hu
    rfl
  · intro v' w1 ho1 hg1 _ hat
    obtain ⟨g, cap, rfl, _, hlt⟩ := ho1.form (by omega)
    have hh : OwnL w1 lo w1.heap.size (some ⟨g, 0, none⟩) (n + 1) cap (ls ++ [xs]) := hE'.app hx' hlo hd (H := w.heap.size) h1 h2 (by simp) ho1 hg1 (by
      rcases hat with h | h
      · exact .inl (by rw [← h]; rfl)
      · right
        simp [Value.ownBlock] at h
        omega) hlt
    have hg2 : w.grownBy w1 (Value.slice A n c).ownBlock := (World.grownBy_alloc w _ _).trans hg1
    exact hK _ _ w1 hh (grow_below hg2 h3 (fun k hk => (hE.2.1.lt k hk).1))
end Go.Proofs.Ytjpoliibljjhnaa

/-
  Lists of lists, their blocks named and apart from another slice's; an append that keeps what it was given. Conditions: lengths below 2^40.
-/



namespace Go.Proofs.Ytjpoliibljjhnaa
open Go.RowKit

/-- The block of a slice. -/
def rowB (A : Option Addr) : Option Nat := (Value.slice A 0 0).ownBlock
theorem ownB (A : Option Addr) (n c : Nat) : (Value.slice A n c).ownBlock = rowB A := by cases A <;> rfl
theorem rowB_some (g o : Nat) : rowB (some ⟨g, o, none⟩) = some g := rfl
/-- One more name. -/
def snE (E : Nat → Sv) (n : Nat) (a : Sv) : Nat → Sv := fun j => if j = n then a else E j
theorem snE_lt (E : Nat → Sv) {n j : Nat} (a : Sv) (h : j < n) : snE E n a j = E j := if_neg (by omega)
theorem snE_at (E : Nat → Sv) (n : Nat) (a : Sv) : snE E n a n = a := if_pos rfl
theorem OwnLE.appE {w w' : World} {lo hi n c : Nat} {A : Option Addr} {ls : List (List Int)} {E : Nat → Sv} (h : OwnLE E w lo hi A n c ls) {lo2 hi2 n2 c2 : Nat} {A2 : Option Addr} {xs : List Int} (hx : Own w lo2 hi2 A2 n2 c2 xs)
    (hlo : lo ≤ lo2) (hap : ∀ b, (Value.slice A2 n2 c2).ownBlock = some b → (Value.slice A n c).ownBlock ≠ some b ∧ ∀ j, j < n → (sv (E j)).ownBlock ≠ some b) {H g cap : Nat} (hH : hi2 ≤ H) (hHh : hi ≤ H) (hHw : H ≤ w.heap.size)
    (ho : w'.ownsRow lo 22 1 (.slice (some ⟨g, 0, none⟩) (n + 1) cap) (n + 1) (heads n E ++ [.slice A2 n2 c2]))
    (hg : w.grownBy w' (Value.slice A n c).ownBlock) (hat : (Value.slice A n c).ownBlock = some g ∨ H ≤ g) (hlt : g < w'.heap.size) : OwnLE (snE E n (A2, n2, c2)) w' lo w'.heap.size (some ⟨g, 0, none⟩) (n + 1) cap (ls ++ [xs]) := by
  obtain ⟨h1, h2, h3, h4, h5, h6⟩ := h
  have hsz := hg.size
  have eh : heads n E ++ [Value.slice A2 n2 c2] = heads (n + 1) (fun j => if j = n then (A2, n2, c2) else E j) := heads_app n E (A2, n2, c2)
  rw [eh] at ho
  have eE : ∀ j, j < n → (if j = n then ((A2, n2, c2) : Sv) else E j) = E j := fun j hj => by rw [if_neg (by omega)]
  have eN : (if n = n then ((A2, n2, c2) : Sv) else E n) = (A2, n2, c2) := if_pos rfl
  refine ⟨by simp [h1], ho, ?_, ?_, ?_, ?_⟩
  · intro k hk
    simp [Value.ownBlock] at hk
    omega
  · intro j hj
    by_cases e : j = n
    · subst e
      have := @li_app_at ls xs
      rw [h1] at this
      rw [this]
      show Own w' lo w'.heap.size (if j = j then ((A2, n2, c2) : Sv) else E j).1 (if j = j then ((A2, n2, c2) : Sv) else E j).2.1 (if j = j then ((A2, n2, c2) : Sv) else E j).2.2 xs
      rw [eN]
      exact (hx.kept hg (fun b hb e => (hap b hb).1 e)).wide hlo (by omega)
    · rw [li_app_lt (by rw [h1]; omega)]
      show Own w' lo w'.heap.size (if j = n then ((A2, n2, c2) : Sv) else E j).1 (if j = n then ((A2, n2, c2) : Sv) else E j).2.1 (if j = n then ((A2, n2, c2) : Sv) else E j).2.2 _
      rw [eE j (by omega)]
      exact ((h4 j (by omega)).kept hg (fun b hb e => h5 j b (by omega) hb e)).wide (Nat.le_refl _) (by omega)
  · intro j b hj hb e2
    have hbg : b = g := by simp [Value.ownBlock] at e2; omega
    subst hbg
    have hb' : (sv (if j = n then ((A2, n2, c2) : Sv) else E j)).ownBlock = some b := hb
    by_cases e : j = n
    · subst e
      rw [eN] at hb'
      have h7 := hx.lt b hb'
      rcases hat with ha | ha
      · exact (hap b hb').1 ha
      · omega
    · rw [eE j (by omega)] at hb'
      rcases hat with ha | ha
      · exact h5 j b (by omega) hb' ha
      · have := (h4 j (by omega)).lt b hb'; omega
  · intro i j b hij hj hb hb2
    have hb' : (sv (if i = n then ((A2, n2, c2) : Sv) else E i)).ownBlock = some b := hb
    have hb2' : (sv (if j = n then ((A2, n2, c2) : Sv) else E j)).ownBlock = some b := hb2
    rw [eE i (by omega)] at hb'
    by_cases e : j = n
    · subst e
      rw [eN] at hb2'
      exact (hap b hb2').2 i (by omega) hb'
    · rw [eE j (by omega)] at hb2'
      exact h6 i j b hij (by omega) hb' hb2'
/-- 'out = append(out, x)' where x is a list of the call's own that lies behind them. -/
theorem wpList_appendLE {ops : Array Oper} {rest : List Oper} {o : Oper} {a : Act} {w : World} {Q : Exit → Act → World → Prop} (hgd : o.guard = none) (s x : Operand)
    (ho : o.op = .call { callee := .builtin .append, args := #[s, x], argTypes := #[23, 23] })
    (lo hi : Nat) (A : Option Addr) (n c : Nat) (ls : List (List Int)) (lo2 hi2 : Nat) (A3 : Option Addr) (n3 c3 : Nat) (xs : List Int) (hs : a.eval s = .slice A n c) (hx : a.eval x = .slice (some ⟨w.heap.size, 0, none⟩) 1 1)
    {E : Nat → Sv} (hown : OwnLE E w lo hi A n c ls) (hxs : Own w lo2 hi2 A3 n3 c3 xs) (hlo : lo ≤ lo2) (hap : ∀ b, (Value.slice A3 n3 c3).ownBlock = some b → (Value.slice A n c).ownBlock ≠ some b ∧ ∀ j, j < n → (sv (E j)).ownBlock ≠ some b) (h1 : hi2 ≤ w.heap.size) (h2 : hi ≤ w.heap.size) (h3 : lo ≤ w.heap.size) (hn : n ≤ 1099511627776)
    (hK : ∀ A' c' w', OwnLE (snE E n (A3, n3, c3)) w' lo w'.heap.size A' (n + 1) c' (ls ++ [xs]) → (rowB A' = rowB A ∨ ∃ g, rowB A' = some g ∧ w.heap.size ≤ g) → w.grownBy w' (rowB A) → Below lo w w' → wpList Try.prog ops Q rest (a.put o.dst (.slice A' (n + 1) c')) w') :
    wpList Try.prog ops Q (o :: rest) a (w.alloc (.cells #[.slice A3 n3 c3] 22)) := by
  obtain ⟨i0, hi0, hz0, hz1, hz2⟩ := info_parts Try.infoLs
  have hE := hown
  have hE' : OwnLE E (w.alloc (.cells #[.slice A3 n3 c3] 22)) lo hi A n c ls := hE.below ((Below.refl w.heap.size w).alloc (Nat.le_refl _) _) h2
  have hx' : Own (w.alloc (.cells #[.slice A3 n3 c3] 22)) lo2 hi2 A3 n3 c3 xs := hxs.below ((Below.refl w.heap.size w).alloc (Nat.le_refl _) _) h1
  refine Go.wpList_append_own_at _ hgd s x 23 ho lo 22 i0 (.slice none 0 0) 1 24 Try.underlying23 hi0 hz0 hz1 hz2 rfl (by decide) _ _ _ hs hE'.2.1 ⟨w.heap.size, 0, none⟩ 1 1 [.slice A3 n3 c3] hx rfl ?_ ?_ (by unfold maxLen; omega) (by omega) (by simp; omega) ?_
  · intro j u hj
    match j, hj with
    | 0, hj =>
      simp at hj
      subst hj
      rw [add_pt]
      exact (Blk.new w 22 #[.slice A3 n3 c3]).cell 0
  · intro u hu
    simp at hu
    subst hu
    rfl
  · intro v' w1 ho1 hg1 _ hat
    obtain ⟨g, cap, rfl, _, hlt⟩ := ho1.form (by omega)
    have hh : OwnLE (snE E n (A3, n3, c3)) w1 lo w1.heap.size (some ⟨g, 0, none⟩) (n + 1) cap (ls ++ [xs]) := hE'.appE hx' hlo hap (H := w.heap.size) h1 h2 (by simp) ho1 hg1 (by
      rcases hat with h | h
      · exact .inl (by rw [← h]; rfl)
      · right
        simp [Value.ownBlock] at h
        omega) hlt
    have hg2 : w.grownBy w1 (Value.slice A n c).ownBlock := (World.grownBy_alloc w _ _).trans hg1
    rw [ownB] at hg2
    refine hK _ _ w1 hh ?_ hg2 (grow_below hg2 h3 (fun k hk => (hE.2.1.lt k (by rw [ownB]; exact hk)).1))
    rcases hat with h | h
    · left; rw [ownB, ownB] at h; exact h
    · right; rw [ownB] at h; exact ⟨_, h, by simp⟩
/-- The block g is none of the lists'. -/
def Apart (E : Nat → Sv) (A : Option Addr) (n g : Nat) : Prop := rowB A ≠ some g ∧ ∀ j, j < n → (sv (E j)).ownBlock ≠ some g
theorem OwnLE.apart_hi {E : Nat → Sv} {w : World} {lo hi n c : Nat} {A : Option Addr} {ls : List (List Int)} (h : OwnLE E w lo hi A n c ls) {w2 : World} {lo2 hi2 n2 c2 : Nat} {A2 : Option Addr} {xs : List Int} (hx : Own w2 lo2 hi2 A2 n2 c2 xs) (hd : hi ≤ lo2) :
    ∀ b, (Value.slice A2 n2 c2).ownBlock = some b → (Value.slice A n c).ownBlock ≠ some b ∧ ∀ j, j < n → (sv (E j)).ownBlock ≠ some b := fun b hb => by
  have h1 := (hx.lt b hb).1
  exact ⟨fun e => by have := h.2.2.1 b e; omega, fun j hj e => by have := (h.2.2.2.1 j hj).lt b e; omega⟩
theorem OwnLE.apart {E : Nat → Sv} {w w' : World} {lo hi n c : Nat} {A : Option Addr} {ls : List (List Int)} (h : OwnLE E w lo hi A n c ls) {row : Option Nat} (hg : w.grownBy w' row) (hr : ∀ g, row = some g → Apart E A n g) : OwnLE E w' lo hi A n c ls := by
  obtain ⟨h1, h2, h3, h4, h5, h6⟩ := h
  refine ⟨h1, h2.kept hg ?_, h3, fun j hj => (h4 j hj).kept hg fun b hb e => (hr b e).2 j hj hb, h5, h6⟩
  cases hb : (Value.slice A n c).ownBlock with
  | none => exact .inl rfl
  | some k => exact .inr fun e => (hr k e.symm).1 (by rw [← ownB A n c]; exact hb)
theorem OwnLE.wide {E : Nat → Sv} {w : World} {lo hi n c : Nat} {A : Option Addr} {ls : List (List Int)} (h : OwnLE E w lo hi A n c ls) {hi' : Nat} (h2 : hi ≤ hi') : OwnLE E w lo hi' A n c ls := by
  obtain ⟨e1, e2, e3, e4, e5, e6⟩ := h
  exact ⟨e1, e2, fun k hk => Nat.lt_of_lt_of_le (e3 k hk) h2, fun j hj => (e4 j hj).wide (Nat.le_refl _) h2, e5, e6⟩
/-- Without its last number. -/
theorem Own.front {w : World} {lo hi n c : Nat} {A : Option Addr} {xs : List Int} {x : Int} (h : Own w lo hi A (n + 1) c (xs ++ [x])) : Own w lo hi A n c xs := by
  have hl : xs.length = n := by have := h.len; simpa using this
  refine ⟨⟨by simpa using hl, ?_⟩, fun k hk => h.2 k (by rw [ownB] at hk ⊢; exact hk)⟩
  rcases h.1.2 with ⟨_, h0⟩ | ⟨g, cap, cur, e, hb, hg, hnc, hcm, hcs, ht⟩
  · omega
  · injection e with e1 e2 e3
    refine .inr ⟨g, cap, cur, by rw [e1, e3], hb, hg, by omega, hcm, hcs, ?_⟩
    have h2 := congrArg (List.take n) ht
    have e2 : List.take n (List.map (Value.int .i64) xs ++ List.map (Value.int .i64) [x]) = List.map (Value.int .i64) xs := by
      rw [List.take_append_of_le_length (by simp; omega), List.take_of_length_le (by simp; omega)]
    rw [List.take_take, List.map_append, e2, show min n ((n + 1) * 1) = n by omega] at h2
    rw [Nat.mul_one]; exact h2
/-- The same block. -/
theorem Own.same {w w' : World} {lo hi n c : Nat} {A : Option Addr} {xs : List Int} (h : Own w lo hi A n c xs) (hg : ∀ g, rowB A = some g → w'.heap[g]? = w.heap[g]?) : Own w' lo hi A n c xs := by
  refine ⟨⟨h.1.1, ?_⟩, h.2⟩
  rcases h.1.2 with hn | ⟨g, cap, cur, e, hb, hq, rest⟩
  · exact .inl hn
  · exact .inr ⟨g, cap, cur, e, hb, (hg g (by injection e with e1; rw [e1]; rfl)).trans hq, rest⟩
theorem Own.tight {w : World} {lo hi hi' n c : Nat} {A : Option Addr} {xs : List Int} (h : Own w lo hi A n c xs) (hg : ∀ g, rowB A = some g → g < hi') : Own w lo hi' A n c xs :=
  ⟨h.1, fun k hk => hg k (by rw [← ownB A n c]; exact hk)⟩
theorem grow_row (w : World) (lo n G : Nat) (xs : List Value) (Z : Array Value) (hl : xs.length = n) (hz : Z.size = 1) (hlo : lo ≤ w.heap.size) (hn : n ≤ G) (hG : G ≤ maxLen) :
    (w.drew.alloc (.cells (xs.toArray ++ Builtin.zeroCells Z (G - n)) 3)).ownsRow lo 3 1 (.slice (some ⟨w.heap.size, 0, none⟩) n G) n xs := by
  refine ⟨by omega, .inr ⟨w.heap.size, G, _, rfl, hlo, heap_alloc_new w.drew _, hn, hG, ?_, ?_⟩⟩
  · rw [Array.size_append, size_zeroCells, hz, List.size_toArray]; omega
  · rw [Array.toList_append, Nat.mul_one, List.take_append_of_le_length (by simp; omega), List.take_of_length_le (by simp; omega)]
set_option maxRecDepth 100000 in
/-- 'append(b, x)' on a slice of the call's own that is wanted again. -/
theorem wpList_append_keep {ops : Array Oper} {rest : List Oper} {o : Oper} {a : Act} {w : World} {Q : Exit → Act → World → Prop} (hgd : o.guard = none) (s x : Operand)
    (ho : o.op = .call { callee := .builtin .append, args := #[s, x], argTypes := #[22, 22] })
    (lo hi : Nat) (A : Option Addr) (n c : Nat) (xs : List Int) (v : Int) (hs : a.eval s = .slice A n c) (hx : a.eval x = .slice (some ⟨w.heap.size, 0, none⟩) 1 1)
    (hown : Own w lo hi A n c xs) (hlo : lo ≤ w.heap.size) (hn : n ≤ 1099511627776)
    (hK : ∀ A' c' w', Own w' lo w'.heap.size A' (n + 1) c' (xs ++ [v]) → w.grownBy w' (rowB A) → ((A' = A ∧ c' = c) ∨ ∃ g, A' = some ⟨g, 0, none⟩ ∧ w.heap.size ≤ g ∧ w.grownBy w' none) → wpList Try.prog ops Q rest (a.put o.dst (.slice A' (n + 1) c')) w') :
    wpList Try.prog ops Q (o :: rest) a (w.alloc (.cells #[.int .i64 v] 3)) := by
  obtain ⟨i0, hi0, hz0, hz1, hz2⟩ := info_parts Try.infoInt
  have hnews : ∀ j u, [Value.int .i64 v][j]? = some u → (w.alloc (.cells #[.int .i64 v] 3)).cell? ((⟨w.heap.size, 0, none⟩ : Addr).add j) = some u := by
    intro j u hj
    match j, hj with
    | 0, hj =>
      simp at hj
      subst hj
      rw [add_pt]
      exact (Blk.new w 3 #[.int .i64 v]).cell 0
  have hone : ∀ u ∈ [Value.int .i64 v], u.oneCell' = true := by
    intro u hu
    simp at hu
    subst hu
    rfl
  have hg1 : ∀ row, w.grownBy (w.alloc (.cells #[.int .i64 v] 3)) row := fun row => World.grownBy_alloc w _ row
  have hlo1 : lo ≤ (w.alloc (.cells #[.int .i64 v] 3)).heap.size := by simp; omega
  have hsz1 : w.heap.size ≤ (w.alloc (.cells #[.int .i64 v] 3)).heap.size := by simp
  have ho1 := hown.1.alloc (.cells #[.int .i64 v] 3)
  have hxl := hown.len
  have hz : (Value.int IntKind.i64 0).cells.size = 1 := rfl
  generalize (w.alloc (.cells #[.int .i64 v] 3)) = W at hnews hg1 hlo1 hsz1 ho1 ⊢
  have hgw : ∀ (row : Option Nat) (ob : Obj), w.grownBy (W.drew.alloc ob) row := fun row ob =>
    (hg1 row).trans ⟨rfl, rfl, rfl, by simp, fun k hk _ => heap_alloc_old W.drew _ hk⟩
  rcases ho1.2 with ⟨e, h0⟩ | ⟨g, cap, cur, e, hb, hq, hnc, hcm, hcs, ht⟩
  · injection e with e1 e2 e3
    subst e1; subst e3; subst h0
    have hx0 : xs = [] := List.eq_nil_of_length_eq_zero hxl
    subst hx0
    have hGn := grownCap_ge W 1 0 3
    have hGm := grownCap_le_maxLen W 1 0 3 (by unfold maxLen; omega)
    have hr := run_append_nil (P := Try.prog) W 22 o.type 3 i0 (.int .i64 0) Try.underlying22 hi0 hz0 ⟨w.heap.size, 0, none⟩ 1 1 [.int .i64 v] (by rw [hz1]; rfl) hnews (by omega) (by omega) (by rw [hz2]; omega)
    refine Lib.wpList_append_run _ hgd s x _ _ ho _ _ hs hx _ _ hr ?_
    refine hK _ _ _ (Own.of (grow_row W lo 1 _ [.int .i64 v] _ rfl hz hlo1 hGn hGm)) (hgw _ _) (.inr ⟨W.heap.size, rfl, hsz1, hgw _ _⟩)
  · injection e with e1 e2 e3
    subst e1; subst e3
    by_cases hroom : n + 1 ≤ c
    · refine wpList_append_own_spare _ hgd s x 22 ho lo 3 i0 1 Try.underlying22 hi0 hz1 g n c _ hs ho1 ⟨w.heap.size, 0, none⟩ 1 1 [.int .i64 v] hx rfl hnews hone hroom ?_
      intro w1 hr1 hg2
      have e1 : List.map (Value.int .i64) xs ++ [Value.int .i64 v] = (xs ++ [v]).map (Value.int .i64) := by simp
      rw [e1] at hr1
      exact hK _ _ w1 (Own.of hr1) ((hg1 _).trans hg2) (.inl ⟨rfl, rfl⟩)
    · have hGn := grownCap_ge W (n + 1) c 3
      have hGm := grownCap_le_maxLen W (n + 1) c 3 (by unfold maxLen; omega)
      have hr := run_append_grow (P := Try.prog) W 22 o.type 3 i0 (.int .i64 0) Try.underlying22 hi0 hz0 ⟨g, 0, none⟩ n c (xs.map (Value.int .i64)) (by rw [hz1]; simp; omega) (ho1.cells (g := g) rfl) ⟨w.heap.size, 0, none⟩ 1 1 [.int .i64 v] (by rw [hz1]; rfl) hnews (by omega) (by omega) (growslice_fits (by omega) (by rw [hz2]; omega))
      refine Lib.wpList_append_run _ hgd s x _ _ ho _ _ hs hx _ _ hr ?_
      have e1 : (xs.map (Value.int .i64)).toArray ++ [Value.int .i64 v].toArray = ((xs ++ [v]).map (Value.int .i64)).toArray := by simp
      rw [e1]
      refine hK _ _ _ (Own.of (grow_row W lo (n + 1) _ ((xs ++ [v]).map (Value.int .i64)) _ (by simp; omega) hz hlo1 hGn hGm)) (hgw _ _) (.inr ⟨W.heap.size, rfl, hsz1, hgw _ _⟩)
end Go.Proofs.Ytjpoliibljjhnaa

/-
  The shapes of at most r rows, none longer than d, listed. No conditions.
-/

namespace Go.Proofs.Ytjpoliibljjhnaa
open Go.RowKit

/-- The shapes of at most r rows, none longer than d. -/
def shapesU : Nat → Nat → List (List Int)
  | 0, _ => [[]]
  | r + 1, d => [] :: (List.range d).flatMap fun j => (shapesU r (j + 1)).map fun l => ((j : Int) + 1) :: l
/-- Is each row above 0 and no longer than the one before (the first one: than d)? -/
def prevD (d : Int) (ys : List Int) : Nat → Int
  | 0 => d
  | k + 1 => nth ys k
def shP (d : Int) (ys : List Int) : Prop := ∀ k, k < ys.length → 1 ≤ nth ys k ∧ nth ys k ≤ prevD d ys k
theorem nth_c0 (x : Int) (l : List Int) : nth (x :: l) 0 = x := rfl
theorem nth_cS (x : Int) (l : List Int) (j : Nat) : nth (x :: l) (j + 1) = nth l j := by simp [nth, List.getD]
theorem shapesU_all : ∀ (r : Nat) (d : Nat) (ys : List Int), ys.length ≤ r → shP d ys → ys ∈ shapesU r d
  | 0, d, ys, hl, _ => by
    have : ys = [] := List.eq_nil_of_length_eq_zero (by omega)
    subst this; simp [shapesU]
  | r + 1, d, [], _, _ => by simp [shapesU]
  | r + 1, d, x :: l, hl, h => by
    have h0 := h 0 (by simp)
    rw [nth_c0] at h0
    have h01 := h0.1
    have h02 : x ≤ (d : Int) := h0.2
    obtain ⟨j, hj⟩ : ∃ j : Nat, x = (j : Int) + 1 := ⟨(x - 1).toNat, by omega⟩
    have ht : shP ((j + 1 : Nat) : Int) l := fun k hk => by
      have hk' := h (k + 1) (by simp; omega)
      rw [nth_cS] at hk'
      refine ⟨hk'.1, ?_⟩
      cases k with
      | zero =>
        have e1 : prevD (d : Int) (x :: l) (0 + 1) = x := rfl
        have e2 : prevD ((j + 1 : Nat) : Int) l 0 = ((j + 1 : Nat) : Int) := rfl
        omega
      | succ k =>
        have e1 : prevD (d : Int) (x :: l) (k + 1 + 1) = nth l k := nth_cS x l k
        have e2 : prevD ((j + 1 : Nat) : Int) l (k + 1) = nth l k := rfl
        omega
    have ih := shapesU_all r (j + 1) l (by simp at hl; omega) ht
    unfold shapesU
    refine List.mem_cons_of_mem _ (List.mem_flatMap.2 ⟨j, List.mem_range.2 (by omega), List.mem_map.2 ⟨l, ih, ?_⟩⟩)
    rw [hj]
/-- Those whose first row is at most i. -/
def shapesP (r i : Nat) : List (List Int) := (List.range i).flatMap fun j => (shapesU r (j + 1)).map fun l => ((j : Int) + 1) :: l
theorem shapesU_succ (r d : Nat) : shapesU (r + 1) d = [] :: shapesP r d := rfl
theorem shapesP_succ (r i : Nat) : shapesP r (i + 1) = shapesP r i ++ (shapesU r (i + 1)).map fun l => ((i : Int) + 1) :: l := by
  unfold shapesP; rw [List.range_succ, List.flatMap_append]; simp
theorem shapesP_mono (r : Nat) {i j : Nat} (h : i ≤ j) : (shapesP r i).length ≤ (shapesP r j).length := by
  induction j with
  | zero => obtain rfl : i = 0 := by omega
            exact Nat.le_refl _
  | succ j ih =>
    by_cases e : i = j + 1
    · subst e; exact Nat.le_refl _
    · rw [shapesP_succ, List.length_append]; have := ih (by omega); omega
/-- A list in front of each. -/
def preL (bs : List Int) (L : List (List Int)) : List (List Int) := L.map fun l => bs ++ l
theorem preL_len (bs : List Int) (L : List (List Int)) : (preL bs L).length = L.length := by simp [preL]
theorem preL_nil (L : List (List Int)) : preL [] L = L := by simp [preL]
theorem preL_cons (bs : List Int) (L : List (List Int)) : preL bs ([] :: L) = bs :: preL bs L := by simp [preL]
theorem preL_app (bs : List Int) (L M : List (List Int)) : preL bs (L ++ M) = preL bs L ++ preL bs M := by simp [preL]
theorem preL_snoc (bs : List Int) (x : Int) (L : List (List Int)) : preL bs (L.map fun l => x :: l) = preL (bs ++ [x]) L := by simp [preL]
theorem shapesU_zero (d : Nat) : shapesU 0 d = [[]] := by unfold shapesU; rfl
end Go.Proofs.Ytjpoliibljjhnaa

/-
  The shapes in a box, listed by the program: a slice that goes on from one beginning. Conditions: lengths below 2^40.
-/



namespace Go.Proofs.Ytjpoliibljjhnaa
open Go.RowKit

/-- What is apart from the lists stays so. -/
structure ApK (E : Nat → Sv) (A : Option Addr) (n : Nat) (E' : Nat → Sv) (A' : Option Addr) (n' H : Nat) : Prop where
  row : ∀ g, g < H → rowB A ≠ some g → rowB A' ≠ some g
  each : ∀ g, g < H → Apart E A n g → Apart E' A' n' g
/-- All old blocks but two are as they were. -/
structure RestB (r1 r2 : Option Nat) (w w' : World) : Prop where
  os : w'.os = w.os
  tape : w'.tape = w.tape
  output : w'.output = w.output
  size : w.heap.size ≤ w'.heap.size
  block : ∀ k, k < w.heap.size → r1 ≠ some k → r2 ≠ some k → w'.heap[k]? = w.heap[k]?
theorem RestB.trans {r1 r2 s1 s2 : Option Nat} {w w1 w2 : World} (h : RestB r1 r2 w w1) (h' : RestB s1 s2 w1 w2) (hk : ∀ k, k < w.heap.size → r1 ≠ some k → r2 ≠ some k → s1 ≠ some k ∧ s2 ≠ some k) : RestB r1 r2 w w2 :=
  ⟨h'.os.trans h.os, h'.tape.trans h.tape, h'.output.trans h.output, Nat.le_trans h.size h'.size, fun k hlt h1 h2 => (h'.block k (Nat.lt_of_lt_of_le hlt h.size) (hk k hlt h1 h2).1 (hk k hlt h1 h2).2).trans (h.block k hlt h1 h2)⟩
theorem RestB.of_grown {r1 : Option Nat} {w w1 : World} (h : w.grownBy w1 r1) (r2 : Option Nat) : RestB r1 r2 w w1 := ⟨h.os, h.tape, h.output, h.size, fun k hk h1 _ => h.block k hk (fun e => h1 e.symm)⟩
theorem RestB.below {r1 r2 : Option Nat} {B : Nat} {w w1 : World} (h : RestB r1 r2 w w1) (hB : B ≤ w.heap.size) (h1 : ∀ k, r1 = some k → B ≤ k) (h2 : ∀ k, r2 = some k → B ≤ k) : Below B w w1 :=
  ⟨h.os, h.tape, h.output, h.size, fun k hk => h.block k (by omega) (fun e => by have := h1 k e; omega) (fun e => by have := h2 k e; omega)⟩
theorem OwnLE.apart_new {E : Nat → Sv} {w : World} {lo hi n c : Nat} {A : Option Addr} {ls : List (List Int)} (h : OwnLE E w lo hi A n c ls) {g : Nat} (hg : hi ≤ g) : Apart E A n g := by
  obtain ⟨h1, h2, h3, h4, h5, h6⟩ := h
  refine ⟨fun e => ?_, fun j hj e => ?_⟩
  · have := h3 g (by rw [ownB]; exact e); omega
  · have := (h4 j hj).lt g e; omega
theorem OwnLE.row_lt {E : Nat → Sv} {w : World} {lo hi n c : Nat} {A : Option Addr} {ls : List (List Int)} (h : OwnLE E w lo hi A n c ls) {g : Nat} (hg : rowB A = some g) : lo ≤ g ∧ g < hi :=
  ⟨(h.2.1.lt g (by rw [ownB]; exact hg)).1, h.2.2.1 g (by rw [ownB]; exact hg)⟩
theorem Own.row_lt {w : World} {lo hi n c : Nat} {A : Option Addr} {xs : List Int} (h : Own w lo hi A n c xs) {g : Nat} (hg : rowB A = some g) : lo ≤ g ∧ g < hi := h.lt g (by rw [ownB]; exact hg)
section
variable {E Ei E3 : Nat → Sv} {w w1 w2 w3 w4 wr : World} {lo hiB n c nb cb n3 c3 ni ci c' : Nat} {A A3 A4 Ai B B' : Option Addr} {ss : List (List Int)} {bs : List Int} {x : Int} {r i : Nat}
/-- Behind the first one. -/
theorem shp_first (hE : OwnLE E w lo w.heap.size A n c ss) (hB : Own w lo hiB B nb cb bs) (hhi : hiB ≤ w.heap.size) (hap : ∀ g, rowB B = some g → Apart E A n g) (hO3 : Own w1 w.heap.size w1.heap.size A3 n3 c3 bs)
    (hB3 : Below w.heap.size w w1) (hat : rowB A4 = rowB A ∨ ∃ g, rowB A4 = some g ∧ w1.heap.size ≤ g) (hg4 : w1.grownBy w4 (rowB A)) :
    Own w4 lo hiB B nb cb bs ∧ RestB (rowB A) (rowB B) w w4 ∧ ApK E A n (snE E n (A3, n3, c3)) A4 (n + 1) w.heap.size := by
  have hs := hB3.size
  have hrow : ∀ g, g < w.heap.size → rowB A ≠ some g → rowB A4 ≠ some g := fun g hg hne e => by
    rcases hat with h | ⟨g', h, hlt⟩
    · exact hne (h ▸ e)
    · rw [h] at e; injection e with e; omega
  refine ⟨?_, ?_, hrow, fun g hg hx => ⟨hrow g hg hx.1, fun j hj => ?_⟩⟩
  · exact (hB.below hB3 hhi).kept hg4 (fun b hb e => (hap b (by rw [← ownB B nb cb]; exact hb)).1 e)
  · exact RestB.trans (r1 := rowB A) (r2 := rowB B) ⟨hB3.os, hB3.tape, hB3.output, hB3.size, fun k hk _ _ => hB3.block k hk⟩ (RestB.of_grown hg4 (rowB B)) (fun k _ h1 h2 => ⟨h1, h2⟩)
  · by_cases e : j = n
    · subst e
      rw [snE_at]
      intro h
      have := hO3.lt g h
      omega
    · rw [snE_lt E _ (by omega)]; exact hx.2 j (by omega)
/-- Before the next call. -/
theorem shp_mid (hap : ∀ g, rowB B = some g → Apart E A n g) (hhi : hiB ≤ w.heap.size) (hB : Own wr lo hiB B nb cb bs) (hE : OwnLE Ei wr lo wr.heap.size Ai ni ci ss) (hK : ApK E A n Ei Ai ni w.heap.size)
    (hg : wr.grownBy w2 (rowB B)) (hat : (B' = B ∧ c' = cb) ∨ ∃ g, B' = some ⟨g, 0, none⟩ ∧ wr.heap.size ≤ g ∧ wr.grownBy w2 none) :
    OwnLE Ei w2 lo w2.heap.size Ai ni ci ss ∧ ∀ g, rowB B' = some g → Apart Ei Ai ni g := by
  have hBA : ∀ g, rowB B = some g → Apart Ei Ai ni g := fun g e => hK.each g (by have := hB.row_lt e; omega) (hap g e)
  refine ⟨(hE.apart hg hBA).wide hg.size, fun g e => ?_⟩
  rcases hat with ⟨h, _⟩ | ⟨g', h, hlt, _⟩
  · subst h; exact hBA g e
  · subst h
    rw [rowB_some] at e; injection e with e
    exact hE.apart_new (by omega)
/-- Behind it. -/
theorem shp_next (hap : ∀ g, rowB B = some g → Apart E A n g) (hhi : hiB ≤ w.heap.size) (hR : RestB (rowB A) (rowB B) w wr) (hB : Own wr lo hiB B nb cb bs) (_hE : OwnLE Ei wr lo wr.heap.size Ai ni ci ss) (hK : ApK E A n Ei Ai ni w.heap.size)
    (hg : wr.grownBy w2 (rowB B)) (hat : (B' = B ∧ c' = cb) ∨ ∃ g, B' = some ⟨g, 0, none⟩ ∧ wr.heap.size ≤ g ∧ wr.grownBy w2 none)
    (hK3 : ApK Ei Ai ni E3 A3 n3 w2.heap.size) (hO3 : Own w3 lo w2.heap.size B' (nb + 1) c' (bs ++ [x])) (hR3 : RestB (rowB Ai) (rowB B') w2 w3) :
    ApK E A n E3 A3 n3 w.heap.size ∧ Own w3 lo hiB B nb cb bs ∧ RestB (rowB A) (rowB B) w w3 := by
  have hs1 := hR.size
  have hs2 := hg.size
  refine ⟨⟨fun g h1 h2 => hK3.row g (by omega) (hK.row g h1 h2), fun g h1 h2 => hK3.each g (by omega) (hK.each g h1 h2)⟩, ?_, ?_⟩
  · rcases hat with ⟨h, hc⟩ | ⟨g', h, hlt, hgn⟩
    · subst h; subst hc
      exact hO3.front.tight (fun g e => (hB.row_lt e).2)
    · subst h
      refine (hB.same (w' := w2) fun g e => hgn.block g (by have := hB.row_lt e; omega) (by intro h; cases h)).same fun g e => ?_
      have hl := hB.row_lt e
      refine hR3.block g (by omega) ?_ ?_
      · exact (hK.each g (by omega) (hap g e)).1
      · rw [rowB_some]; intro h; injection h with h; omega
  · refine (hR.trans (RestB.of_grown hg (rowB A)) (fun k _ h1 h2 => ⟨h2, h1⟩)).trans hR3 (fun k hk h1 h2 => ⟨hK.row k hk h1, ?_⟩)
    rcases hat with ⟨h, _⟩ | ⟨g', h, hlt, _⟩
    · subst h; exact h2
    · subst h; rw [rowB_some]; intro h; injection h with h; omega
end
end Go.Proofs.Ytjpoliibljjhnaa

/-
  The helpers of the exact laws at slices of slices of numbers: copying, measuring, comparing, marking, holding. Conditions: lengths below 2^40.
-/


namespace Go.Proofs.Ytjpoliibljjhnaa
open Go.RowKit

theorem take_li {ls : List (List Int)} {k : Nat} (h : k < ls.length) : ls.take (k + 1) = ls.take k ++ [li ls k] := by
  rw [List.take_succ_eq_append_getElem h, li_get h]
def copLs (ls : List (List Int)) (k : Nat) : List (List Int) := ls.take k ++ List.replicate (ls.length - k) []
theorem copLs_zero (ls : List (List Int)) : copLs ls 0 = List.replicate ls.length [] := by simp [copLs]
theorem copLs_all (ls : List (List Int)) : copLs ls ls.length = ls := by simp [copLs]
theorem copLs_succ {ls : List (List Int)} {k : Nat} (h : k < ls.length) : (copLs ls k).set k (li ls k) = copLs ls (k + 1) := by
  unfold copLs
  have hl : (ls.take k).length = k := by simp; omega
  rw [List.set_append_right _ _ (by omega), hl]
  have e : ls.length - k = (ls.length - (k + 1)) + 1 := by omega
  rw [e, List.replicate_succ, Nat.sub_self, List.set_cons_zero, take_li h, List.append_assoc]
  rfl
/-- Equality of two lists of lists as a Bool. -/
def eqLs (ls us : List (List Int)) : Bool := decide (ls = us)
theorem eqLs_self (ls : List (List Int)) : eqLs ls ls = true := by simp [eqLs]
theorem eqLs_len {ls us : List (List Int)} (h : ls.length ≠ us.length) : eqLs ls us = false := by
  simp only [eqLs, decide_eq_false_iff_not]; intro e; exact h (by rw [e])
theorem eqLs_ne {ls us : List (List Int)} {k : Nat} (h : li ls k ≠ li us k) : eqLs ls us = false := by
  simp only [eqLs, decide_eq_false_iff_not]; intro e; exact h (by rw [e])
theorem eqL_true {xs ys : List Int} (h : eqL xs ys = true) : xs = ys := by simpa [eqL] using h
theorem eqL_false' {xs ys : List Int} (h : eqL xs ys = false) : xs ≠ ys := by simpa [eqL] using h
set_option maxHeartbeats 800000 in
theorem eqIntSS_any (A A2 : Option Addr) (n c n2 c2 : Nat) (ls us : List (List Int)) (w : World) (hs : LS w A n ls) (hs2 : LS w A2 n2 us) (hn : n ≤ 1099511627776) (hn2 : n2 ≤ 1099511627776)
    (hne : ∀ k, k < n → (li ls k).length ≤ 1099511627776) (hne2 : ∀ k, k < n2 → (li us k).length ≤ 1099511627776) :
    Calls Try.prog 18 #[.slice A n c, .slice A2 n2 c2] w fun e w' => e = .returned (.bool (eqLs ls us)) ∧ Drawn w w' := by
  have HL := Lib.hid hs.1
  have HL2 := Lib.hid hs2.1
  have HNE := Lib.hid hne
  have HNE2 := Lib.hid hne2
  clear hne hne2
  by_cases hlen : n = n2
  · subst hlen
    go_enter Try.func18, Try.ntmps18
    go_wp2
    go_loopw [5] (fun i wr => ∃ k : Nat, k ≤ n ∧ i = .int .i64 k ∧ Drawn w wr ∧ ∀ j, j < k → li ls j = li us j)
      (fun i _ => n - (intOf i).toNat)
    case atStart => exact ⟨0, Nat.zero_le _, rfl, Drawn.refl _, fun j hj => absurd hj (by omega)⟩
    case round =>
      obtain ⟨k, hk, rfl, hD, hall⟩ := hrel
      have HA := Lib.hid hall
      have HD := Lib.hid hD
      have h1 := hs.drawn hD
      have h2 := hs2.drawn hD
      clear hall hD
      by_cases hlt : k < n
      · have hlI : (k : Int) < (n : Int) := by omega
        obtain ⟨b, o, A', n', c', rfl, hb, hc0, hsi, _, _⟩ := h1.at_ hlt
        obtain ⟨b2, o2, A3, n3, c3, rfl, hb2, hc2, hsi2, _, _⟩ := h2.at_ hlt
        have hE := eqIntS_any A' A3 n' c' n3 c3 (li ls k) (li us k)
        have hq1 : n' ≤ 1099511627776 := by have := HNE.out k hlt; have := hsi.1; omega
        have hq2 : n3 ≤ 1099511627776 := by have := HNE2.out k hlt; have := hsi2.1; omega
        have HE := Lib.hid (fun wx (hd : Drawn wr wx) => hE wx (hd.si hsi) (hd.si hsi2) hq1 hq2)
        clear hE h1 h2 hsi hsi2
        cases hu : eqL (li ls k) (li us k) with
        | true =>
          rw [hu] at HE
          have HU := Lib.hid (eqL_true hu)
          clear hu
          go_wp2_with fail
          go_quiet ((go_at_call 19; exact Calls.quiet_of (HE.out _ (by first | exact ⟨_, rfl⟩ | assumption))))
          go_wp2
          go_roundw
          case rel => exact ⟨k + 1, by omega, by go_num, HD.out.drewN _, fun j hj => by
            rcases Nat.lt_or_ge j k with h | h
            · exact HA.out j h
            · obtain rfl : j = k := by omega
              exact HU.out⟩
          case measure => simp [intOf]; omega
        | false =>
          rw [hu] at HE
          have HU := Lib.hid (eqLs_ne (eqL_false' hu))
          clear hu
          go_wp2_with fail
          go_quiet ((go_at_call 19; exact Calls.quiet_of (HE.out _ (by first | exact ⟨_, rfl⟩ | assumption))))
          go_wp2
          go_ret
          exact ⟨ret_bool HU.out.symm, HD.out.drewN _⟩
      · have hkn : k = n := by omega
        subst hkn
        go_wp2
        go_ret
        refine ⟨ret_bool ?_, HD.out⟩
        have e : ls = us := li_ext (by rw [HL.out, HL2.out]) (by rw [HL.out]; exact HA.out)
        rw [e, eqLs_self]
  · have hb : ((n : Int) == (n2 : Int)) = false := by simp; omega
    have HF := Lib.hid (eqLs_len (ls := ls) (us := us) (by rw [HL.out, HL2.out]; exact hlen))
    clear hs hs2 hlen
    go_enter Try.func18, Try.ntmps18
    go_wp2
    go_ret
    exact ⟨ret_bool HF.out.symm, Drawn.refl _⟩
/-- What marking writes, from q on. -/
def marksS : List (List Int) → Int → List (List Int)
  | [], _ => []
  | t :: r, q => marks t.length q :: marksS r (q + (t.length : Int))
/-- The number behind the last mark. -/
def endS : List (List Int) → Int → Int
  | [], q => q
  | t :: r, q => endS r (q + (t.length : Int))
theorem marksS_len : ∀ (ts : List (List Int)) (q : Int), (marksS ts q).length = ts.length
  | [], _ => rfl
  | _ :: r, q => by simp [marksS, marksS_len r]
theorem endS_app : ∀ (ts us : List (List Int)) (q : Int), endS (ts ++ us) q = endS us (endS ts q)
  | [], _, _ => rfl
  | _ :: r, us, _ => endS_app r us _
theorem endS_from : ∀ (ts : List (List Int)) (q : Int), endS ts q = q + endS ts 0
  | [], q => by simp [endS]
  | t :: r, q => by show endS r _ = q + endS r (0 + _); rw [endS_from r (q + _), endS_from r (0 + _)]; omega
theorem marksS_app : ∀ (ts us : List (List Int)) (q : Int), marksS (ts ++ us) q = marksS ts q ++ marksS us (endS ts q)
  | [], _, _ => rfl
  | t :: r, us, q => by show _ :: marksS (r ++ us) _ = _ :: (_ ++ _); rw [marksS_app r us]; rfl
def mixS (ts : List (List Int)) (q : Int) (k : Nat) : List (List Int) := marksS (ts.take k) q ++ ts.drop k
theorem mixS_zero (ts : List (List Int)) (q : Int) : mixS ts q 0 = ts := by simp [mixS, marksS]
theorem mixS_all (ts : List (List Int)) (q : Int) : mixS ts q ts.length = marksS ts q := by simp [mixS]
theorem mixS_li {ts : List (List Int)} {q : Int} {k : Nat} (h : k < ts.length) : li (mixS ts q k) k = li ts k := by
  unfold mixS li
  rw [List.getD_eq_getElem?_getD, List.getD_eq_getElem?_getD, List.getElem?_append_right (by rw [marksS_len]; simp; omega), marksS_len]
  simp [Nat.min_eq_left (Nat.le_of_lt h)]
theorem endS_succ {ts : List (List Int)} {q : Int} {k : Nat} (h : k < ts.length) : endS (ts.take (k + 1)) q = endS (ts.take k) q + ((li ts k).length : Int) := by
  rw [take_li h, endS_app]; rfl
theorem mixS_succ {ts : List (List Int)} {q : Int} {k : Nat} (h : k < ts.length) : (mixS ts q k).set k (marks (li ts k).length (endS (ts.take k) q)) = mixS ts q (k + 1) := by
  unfold mixS
  have hl : (marksS (ts.take k) q).length = k := by rw [marksS_len]; simp; omega
  rw [List.set_append_right _ _ (by omega), hl, Nat.sub_self, List.drop_eq_getElem_cons h, List.set_cons_zero, take_li h, marksS_app, List.append_assoc]
  rfl
theorem marksS_li {ts : List (List Int)} {q : Int} {k : Nat} (h : k < ts.length) : li (marksS ts q) k = marks (li ts k).length (endS (ts.take k) q) := by
  have e : marksS ts q = marksS (ts.take k) q ++ marksS (ts.drop k) (endS (ts.take k) q) := by rw [← marksS_app, List.take_append_drop]
  rw [e]
  unfold li
  rw [List.getD_eq_getElem?_getD, List.getElem?_append_right (by rw [marksS_len]; simp; omega), marksS_len]
  rw [List.drop_eq_getElem_cons h]
  simp [marksS, Nat.min_eq_left (Nat.le_of_lt h), List.getD, h]
set_option maxHeartbeats 800000 in
theorem markIntSS_own (g n c lo hi : Nat) (ts : List (List Int)) (q : Int) (w : World) (hs : OwnL w lo hi (some ⟨g, 0, none⟩) n c ts) (hn : n ≤ 1099511627776) (hne : ∀ k, k < n → (li ts k).length ≤ 1099511627776)
    (hq : ∀ k, k ≤ n → 0 ≤ endS (ts.take k) q ∧ endS (ts.take k) q ≤ 1099511627776) :
    Calls Try.prog 21 #[.slice (some ⟨g, 0, none⟩) n c, .int .i64 q] w fun e w' => e = .returned (.int .i64 (endS ts q)) ∧ OwnL w' lo hi (some ⟨g, 0, none⟩) n c (marksS ts q) ∧ Within lo hi w w' := by
  have HL := Lib.hid hs.len
  have HNE := Lib.hid hne
  have HQ := Lib.hid hq
  clear hne hq
  go_enter Try.func21, Try.ntmps21
  go_wp2
  go_loopw [1, 5] (fun p i wr => ∃ k : Nat, k ≤ n ∧ i = .int .i64 k ∧ p = .int .i64 (endS (ts.take k) q) ∧ OwnL wr lo hi (some ⟨g, 0, none⟩) n c (mixS ts q k) ∧ Within lo hi w wr)
    (fun _ i _ => n - (intOf i).toNat)
  case atStart => exact ⟨0, Nat.zero_le _, rfl, rfl, by rw [mixS_zero]; exact hs, Within.refl _ _ _⟩
  case round =>
    obtain ⟨k, hk, rfl, rfl, hown, hwi⟩ := hrel
    clear hs
    by_cases hlt : k < n
    · have hlI : (k : Int) < (n : Int) := by omega
      obtain ⟨A', n', c', hc0, hfz, hx, hback⟩ := hown.item hlt
      rw [mixS_li (by rw [HL.out]; exact hlt)] at hx
      have hq0 := HQ.out k hk
      have es := endS_succ (ts := ts) (q := q) (k := k) (by rw [HL.out]; exact hlt)
      have em := mixS_succ (ts := ts) (q := q) (k := k) (by rw [HL.out]; exact hlt)
      have hl' := hx.len
      rw [hl'] at es em
      have hn' : n' ≤ 1099511627776 := by have := HNE.out k hlt; omega
      obtain ⟨z, hz⟩ : ∃ z, z = endS (ts.take k) q := ⟨_, rfl⟩
      rw [← hz] at hq0 es em ⊢
      have hM := markIntS_any A' n' c' lo hi (li ts k) z wr hx hn' hq0.1 hq0.2
      have HM := Lib.hid hM
      have HBK := Lib.hid hback
      have HX := Lib.hid hx
      have HW := Lib.hid hwi
      have HES := Lib.hid es
      have HEM := Lib.hid em
      clear hown hfz hx hback hM hwi es em hz hl'
      go_wp2_with fail
      refine HM.out.mono ?_
      rintro e w2 ⟨rfl, ho2, hg2⟩
      have hO2 := HBK.out w2 _ ho2 hg2
      rw [HEM.out] at hO2
      have HO3 := Lib.hid hO2
      have HW3 := Lib.hid (HW.out.trans (Within.of_grown hg2 (fun b hb => HX.out.lt b hb)))
      clear hO2 ho2 hg2 HBK HX HM HW hc0
      go_wp2
      go_roundw
      case rel => exact ⟨k + 1, by omega, by go_num, by rw [HES.out], HO3.out, HW3.out⟩
      case measure => simp [intOf]; omega
    · have hkn : k = n := by omega
      subst hkn
      have e1 : ts.take k = ts := List.take_of_length_le (by rw [HL.out]; omega)
      rw [e1]
      have e2 := mixS_all ts q
      rw [HL.out] at e2
      rw [e2] at hown
      go_wp2
      go_ret
      exact ⟨rfl, hown, hwi⟩
set_option maxHeartbeats 400000 in
theorem markIntSS_any (A : Option Addr) (n c lo hi : Nat) (ts : List (List Int)) (q : Int) (w : World) (hs : OwnL w lo hi A n c ts) (hn : n ≤ 1099511627776) (hne : ∀ k, k < n → (li ts k).length ≤ 1099511627776)
    (hq : ∀ k, k ≤ n → 0 ≤ endS (ts.take k) q ∧ endS (ts.take k) q ≤ 1099511627776) :
    Calls Try.prog 21 #[.slice A n c, .int .i64 q] w fun e w' => e = .returned (.int .i64 (endS ts q)) ∧ OwnL w' lo hi A n c (marksS ts q) ∧ Within lo hi w w' := by
  by_cases h0 : 0 < n
  · obtain ⟨g, rfl, h1, h2⟩ := hs.place h0
    exact markIntSS_own g n c lo hi ts q w hs hn hne hq
  · have hz : n = 0 := by omega
    subst hz
    have hx : ts = [] := List.eq_nil_of_length_eq_zero hs.len
    subst hx
    have HS := Lib.hid hs
    clear hs hq hne
    go_enter Try.func21, Try.ntmps21
    go_wp2
    refine wp_loop_rounds 1 ?_
    rw [rounds_succ]
    go_wp2
    go_ret
    exact ⟨rfl, HS.out, Within.refl _ _ _⟩
set_option maxHeartbeats 800000 in
theorem heldIntSS_yes (A : Option Addr) (n c : Nat) (ts : List (List Int)) (q : Int) (w : World) (hs : LS w A n (marksS ts q)) (hn : n ≤ 1099511627776) (hne : ∀ k, k < n → (li ts k).length ≤ 1099511627776)
    (hq : ∀ k, k ≤ n → 0 ≤ endS (ts.take k) q ∧ endS (ts.take k) q ≤ 1099511627776) :
    Calls Try.prog 22 #[.slice A n c, .int .i64 q] w fun e w' => e = .returned (.int .i64 (endS ts q)) ∧ Drawn w w' := by
  have HL : Hid (ts.length = n) := Lib.hid (by rw [← marksS_len ts q]; exact hs.1)
  have HNE := Lib.hid hne
  have HQ := Lib.hid hq
  clear hne hq
  go_enter Try.func22, Try.ntmps22
  go_wp2
  go_loopw [1, 5] (fun p i wr => ∃ k : Nat, k ≤ n ∧ i = .int .i64 k ∧ p = .int .i64 (endS (ts.take k) q) ∧ Drawn w wr)
    (fun _ i _ => n - (intOf i).toNat)
  case atStart => exact ⟨0, Nat.zero_le _, rfl, rfl, Drawn.refl _⟩
  case round =>
    obtain ⟨k, hk, rfl, rfl, hD⟩ := hrel
    have HD := Lib.hid hD
    have hts := hs.drawn hD
    clear hs hD
    by_cases hlt : k < n
    · have hlI : (k : Int) < (n : Int) := by omega
      obtain ⟨b, o, A', n', c', rfl, hb, hc0, hsi, hnc, hnil⟩ := hts.at_ hlt
      rw [marksS_li (by rw [HL.out]; exact hlt)] at hsi
      have hq0 := HQ.out k hk
      have hq1 := HQ.out (k + 1) (by omega)
      have es := endS_succ (ts := ts) (q := q) (k := k) (by rw [HL.out]; exact hlt)
      have hl' : n' = (li ts k).length := by rw [← hsi.1]; simp [marks_len]
      have hn' : n' ≤ 1099511627776 := by have := HNE.out k hlt; omega
      rw [← hl'] at es hsi
      obtain ⟨z, hz⟩ : ∃ z, z = endS (ts.take k) q := ⟨_, rfl⟩
      rw [← hz] at hq0 es hsi ⊢
      rw [es] at hq1
      have hM := heldIntS_yes A' n' c' z wr hsi hn' hq0.1 hq0.2
      have HM := Lib.hid hM
      have HES := Lib.hid es
      clear hts hsi hM es hz hl' hnil
      have hzn : ¬ z + (n' : Int) < 0 := by omega
      go_wp2_with fail
      refine HM.out.mono ?_
      rintro e w2 ⟨rfl, hD2⟩
      have HD2 := Lib.hid (HD.out.trans hD2)
      clear hD2 hc0 HM
      go_wp2
      go_roundw
      case rel => exact ⟨k + 1, by omega, by go_num, by rw [HES.out], HD2.out⟩
      case measure => simp [intOf]; omega
    · have hkn : k = n := by omega
      subst hkn
      have e1 : ts.take k = ts := List.take_of_length_le (by rw [HL.out]; omega)
      rw [e1]
      go_wp2
      go_ret
      exact ⟨rfl, HD.out⟩
end Go.Proofs.Ytjpoliibljjhnaa

/-
  The shapes in a box, on both sides. Conditions: lengths below 2^40.
-/



namespace Go.Proofs.Ytjpoliibljjhnaa
open Go.RowKit

/-- A short list of short lists. -/
structure ShortL (ls : List (List Int)) : Prop where
  le : ls.length ≤ 1099511627776
  lens : ∀ k, (li ls k).length ≤ 1099511627776
  ends : ∀ k, 0 ≤ endS (ls.take k) 1 ∧ endS (ls.take k) 1 ≤ 1099511627776
theorem endS_bound : ∀ (us : List (List Int)) (q : Int), (∀ t ∈ us, t.length ≤ 100) → q ≤ endS us q ∧ endS us q ≤ q + 100 * (us.length : Int)
  | [], q, _ => by simp [endS]
  | t :: r, q, h => by
    have ih := endS_bound r (q + (t.length : Int)) (fun s hs => h s (List.mem_cons_of_mem _ hs))
    have h7 := h t List.mem_cons_self
    show q ≤ endS r _ ∧ endS r _ ≤ _
    rw [List.length_cons]
    omega
theorem ShortL.of {ls : List (List Int)} (h1 : ls.length ≤ 1000000) (h2 : ∀ t ∈ ls, t.length ≤ 100) : ShortL ls := by
  refine ⟨by omega, fun k => ?_, fun k => ?_⟩
  · by_cases hk : k < ls.length
    · rw [li_get hk]; have := h2 _ (List.getElem_mem hk); omega
    · have e : li ls k = [] := by simp [li, List.getD, List.getElem?_eq_none (Nat.le_of_not_lt hk)]
      rw [e]; simp
  · have := endS_bound (ls.take k) 1 (fun t ht => h2 t (List.mem_of_mem_take ht))
    have h2 : (ls.take k).length ≤ ls.length := by rw [List.length_take]; omega
    omega
theorem shapesU_rows : ∀ (r d : Nat) (l : List Int), l ∈ shapesU r d → l.length ≤ r
  | 0, d, l, h => by rw [shapesU_zero, List.mem_singleton] at h; subst h; simp
  | r + 1, d, l, h => by
    rw [shapesU_succ, List.mem_cons] at h
    rcases h with rfl | h
    · simp
    · unfold shapesP at h
      obtain ⟨j, _, hj⟩ := List.mem_flatMap.1 h
      obtain ⟨m, hm, rfl⟩ := List.mem_map.1 hj
      have := shapesU_rows r (j + 1) m hm
      simp; omega
theorem shapesU_few {r d : Nat} (hr : r ≤ 7) (hd : d ≤ 7) : (shapesU r d).length ≤ 3432 := by
  have h : ((List.range 8).all fun r => (List.range 8).all fun d => decide ((shapesU r d).length ≤ 3432)) = true := by decide +kernel
  rw [List.all_eq_true] at h
  have h1 := h r (List.mem_range.2 (by omega))
  rw [List.all_eq_true] at h1
  exact of_decide_eq_true (h1 d (List.mem_range.2 (by omega)))
/-- What ShapesIn answers. -/
def shpOk (r d : Int) : Bool := decide (0 ≤ r ∧ r ≤ 6 ∧ 0 ≤ d ∧ d ≤ 6)
def shpIn (r d : Int) : List (List Int) := if shpOk r d = true then shapesU r.toNat d.toNat else []
theorem shpIn_no {r d : Int} (h : shpOk r d = false) : shpIn r d = [] := by unfold shpIn; rw [if_neg (by rw [h]; decide)]
theorem shpIn_yes {r d : Nat} (h : shpOk (r : Int) (d : Int) = true) : shpIn (r : Int) (d : Int) = shapesU r d := by unfold shpIn; rw [if_pos h, Int.toNat_natCast, Int.toNat_natCast]
theorem shpIn_short (r d : Int) : ShortL (shpIn r d) := by
  unfold shpIn
  split
  · rename_i h
    have h' := of_decide_eq_true h
    refine ShortL.of ?_ (fun t ht => ?_)
    · have := shapesU_few (r := r.toNat) (d := d.toNat) (by omega) (by omega); omega
    · have := shapesU_rows _ _ t ht; omega
  · exact ShortL.of (by simp) (fun t ht => by cases ht)
theorem OwnLE.nil (E : Nat → Sv) (w : World) (lo hi : Nat) : OwnLE E w lo hi none 0 0 [] :=
  ⟨rfl, by simpa [heads] using World.ownsRow_nil _ _ _ _, fun k hk => by simp [Value.ownBlock] at hk, fun j hj => absurd hj (by omega), fun j g hj => absurd hj (by omega), fun i j g _ hj => absurd hj (by omega)⟩
theorem Own.emptyAt {w : World} {lo : Nat} (h : lo ≤ w.heap.size) : Own (w.alloc (.cells #[] 3)) lo (w.heap.size + 1) (some ⟨w.heap.size, 0, none⟩) 0 0 [] := (Own.empty w).wide h (Nat.le_refl _)
theorem OwnLE.empty (E : Nat → Sv) (w : World) {lo : Nat} (h : lo ≤ w.heap.size) : OwnLE E (w.alloc (.cells #[] 22)) lo (w.alloc (.cells #[] 22)).heap.size (some ⟨w.heap.size, 0, none⟩) 0 0 [] :=
  ⟨rfl, World.ownsRow_lit w #[] 0 h (Nat.zero_le _) rfl, fun k hk => by simp [Value.ownBlock] at hk; simp; omega, fun j hj => absurd hj (by omega), fun j g hj => absurd hj (by omega), fun i j g _ hj => absurd hj (by omega)⟩
end Go.Proofs.Ytjpoliibljjhnaa
