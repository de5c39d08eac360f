/-
  Texts Words to Std, merged. Conditions: as each says.
-/
import Derived.Test.YthinbmjcdcmioaaRows
import Derived.WalkKit
import Derived.WalkSpells
import Derived.WalkLawsBesides
import Derived.Deep.QuietTactic
import Derived.BigQuiet
import Derived.Handy
import Derived.Lib.Hide
import Derived.Deep.AppendLies
import Derived.Laws.OwnMore
import Derived.Maps.AppendAt
import Derived.ProofKit
import Derived.OpenShut
import Derived.ChangeOld
import Derived.Laws.CopyOwn
import Derived.RegionTactic
import Derived.BigRegion
import Derived.Deep.Cut
import Derived.Deep.RegionHeld3
/-
  Words for memory: a slice of integers that reads as a list; plain lemmas. No conditions.
-/










namespace Go.Proofs.Ythinbmjcdcmioaa
open Go.RowKit

theorem add_pt (b o k : Nat) : (Addr.mk b o none).add k = ⟨b, o + k, none⟩ := Addr.add_lit b o k

/-- The k-th number of a list (not unfolded by the walk). -/
def nth (xs : List Int) (k : Nat) : Int := xs.getD k 0
theorem nth_get {xs : List Int} {k : Nat} (h : k < xs.length) : nth xs k = xs[k] := by simp [nth, List.getD, h]
theorem nth_get? {xs : List Int} {k : Nat} (h : k < xs.length) : xs[k]? = some (nth xs k) := by simp [nth, List.getD, h]
theorem take_nth {xs : List Int} {k : Nat} (h : k < xs.length) : xs.take (k + 1) = xs.take k ++ [nth xs k] := by
  rw [List.take_succ_eq_append_getElem h, nth_get h]

/-- The slice (A, n) reads as the integers xs. -/
def SI (w : World) (A : Option Addr) (n : Nat) (xs : List Int) : Prop :=
  xs.length = n ∧ (0 < n → ∃ b o, A = some ⟨b, o, none⟩ ∧ b < w.heap.size ∧ ∀ k, k < n → w.cell? ⟨b, o + k, none⟩ = some (.int .i64 (nth xs k)))

section
variable {w w' : World} {A : Option Addr} {n : Nat} {xs : List Int}
theorem SI.nil (w : World) (A : Option Addr) : SI w A 0 [] := ⟨rfl, fun h => absurd h (by omega)⟩
theorem SI.at_ (h : SI w A n xs) (hn : 0 < n) : ∃ b o, A = some ⟨b, o, none⟩ ∧ b < w.heap.size ∧ ∀ k, k < n → w.cell? ⟨b, o + k, none⟩ = some (.int .i64 (nth xs k)) := h.2 hn
theorem SI.below {B : Nat} (h : SI w A n xs) (hb : Below B w w') (hB : w.heap.size ≤ B) : SI w' A n xs :=
  ⟨h.1, fun hn => by
    obtain ⟨b, o, e, hl, hc⟩ := h.2 hn
    have hs := hb.size
    exact ⟨b, o, e, by omega, fun k hk => (hb.cell (p := ⟨b, o + k, none⟩) (by show b < B; omega)).trans (hc k hk)⟩⟩
theorem SI.drewN (h : SI w A n xs) (k : Nat) : SI (w.drewN k) A n xs := h
theorem SI.drew (h : SI w A n xs) : SI w.drew A n xs := h
theorem SI.alloc (h : SI w A n xs) (o : Obj) : SI (w.alloc o) A n xs := h.below ((Below.refl w.heap.size w).alloc (Nat.le_refl _) o) (Nat.le_refl _)
theorem nth_take {k j : Nat} (hj : j < k) : nth (xs.take k) j = nth xs j := by simp [nth, List.getD, hj]
theorem SI.take {k : Nat} (h : SI w A n xs) (hk : k ≤ n) : SI w A k (xs.take k) := by
  refine ⟨by rw [List.length_take, h.1]; omega, fun h0 => ?_⟩
  obtain ⟨b, o, e, hb, hc⟩ := h.2 (by omega)
  exact ⟨b, o, e, hb, fun j hj => by rw [nth_take hj]; exact hc j (by omega)⟩
theorem SI.of_own {base : Nat} {c : Nat} (h : w.ownsRow base 3 1 (.slice A n c) n (xs.map (Value.int .i64))) : SI w A n xs := by
  have h1 := h.1
  simp at h1
  refine ⟨h1, fun hn => ?_⟩
  obtain ⟨g, cap, hv, _, hlt⟩ := h.form hn
  have hA : A = some ⟨g, 0, none⟩ := by injection hv
  subst hA
  refine ⟨g, 0, rfl, hlt, fun k hk => ?_⟩
  have := h.cells (g := g) rfl k (.int .i64 (nth xs k)) (by rw [List.getElem?_map, nth_get? (show k < xs.length by omega)]; rfl)
  rw [add_pt] at this
  exact this
end

/-- w' is w but for draws. -/
def Drawn (w w' : World) : Prop := ∃ m, w' = w.drewN m
theorem Drawn.refl (w : World) : Drawn w w := ⟨0, rfl⟩
theorem Drawn.drewN {w w' : World} (h : Drawn w w') (n : Nat) : Drawn w (w'.drewN n) := by
  obtain ⟨m, rfl⟩ := h; exact ⟨m + n, by rw [World.drewN_drewN]⟩
theorem Drawn.trans {w w' w'' : World} (h : Drawn w w') (h' : Drawn w' w'') : Drawn w w'' := by
  obtain ⟨m, rfl⟩ := h'; exact h.drewN m
theorem Drawn.heap {w w' : World} (h : Drawn w w') : w'.heap = w.heap := by obtain ⟨m, rfl⟩ := h; rfl
theorem Drawn.below {w w' : World} (h : Drawn w w') (B : Nat) : Below B w w' := by obtain ⟨m, rfl⟩ := h; exact ⟨rfl, rfl, rfl, Nat.le_refl _, fun _ _ => rfl⟩
theorem Drawn.si {w w' : World} (h : Drawn w w') {A : Option Addr} {n : Nat} {xs : List Int} (hs : SI w A n xs) : SI w' A n xs := by obtain ⟨m, rfl⟩ := h; exact hs
/-- Block g is just the cells cs of element type t, none frozen. -/
def Blk (w : World) (g : Nat) (t : TypeId) (cs : Array Value) : Prop := w.heap[g]? = some (.cells cs t (0, 0))
section
variable {w w' : World} {g : Nat} {t : TypeId} {cs : Array Value}
theorem Blk.lt (h : Blk w g t cs) : g < w.heap.size := by
  rcases Nat.lt_or_ge g w.heap.size with hlt | hge
  · exact hlt
  · unfold Blk at h; rw [Array.getElem?_eq_none hge] at h; cases h
theorem Blk.cell (h : Blk w g t cs) (i : Nat) : w.cell? ⟨g, i, none⟩ = cs[i]? := cell_of_row w g i cs t (0, 0) h
theorem Blk.frozen (h : Blk w g t cs) (i : Nat) : w.frozen? ⟨g, i, none⟩ = false := by
  unfold Blk at h
  simp [World.frozen?, h]
theorem Blk.new (w : World) (t : TypeId) (cs : Array Value) : Blk (w.alloc (.cells cs t)) w.heap.size t cs := heap_alloc_new w _
theorem Blk.drawn (h : Blk w g t cs) (hd : Drawn w w') : Blk w' g t cs := by obtain ⟨m, rfl⟩ := hd; exact h
theorem Blk.drewN (h : Blk w g t cs) (n : Nat) : Blk (w.drewN n) g t cs := h
theorem Blk.alloc (h : Blk w g t cs) (o : Obj) : Blk (w.alloc o) g t cs := (Below.heap_alloc w o g h.lt).trans h
theorem Blk.set_ (h : Blk w g t cs) (i : Nat) (u : Value) : Blk (w.setCell ⟨g, i, none⟩ u) g t (cs.setIfInBounds i u) := by
  unfold Blk at h ⊢
  simp [World.setCell, Array.getElem?_modify, h]
theorem Blk.far (h : Blk w g t cs) {p : Addr} (hp : g ≠ p.block) (u : Value) : Blk (w.setCell p u) g t cs := (Below.heap_setCell w p u g hp).trans h
theorem Blk.below {B : Nat} (h : Blk w g t cs) (hb : Below B w w') (hg : g < B) : Blk w' g t cs := (hb.block g hg).trans h
theorem Blk.row (h : Blk w g t cs) (cs' : Array Value) : Blk (w.setRow g cs') g t cs' := setRow_heap w g cs cs' t (0, 0) h
theorem Blk.row_far {g' : Nat} (h : Blk w g t cs) (hne : g ≠ g') (cs' : Array Value) : Blk (w.setRow g' cs') g t cs := (setRow_other w g' g cs' hne).trans h
theorem Blk.grown {row : Option Nat} (h : Blk w g t cs) (hb : w.grownBy w' row) (hg : some g ≠ row) : Blk w' g t cs := (hb.block g h.lt hg).trans h
end
theorem grownBy_setRow (w : World) (g : Nat) (cs : Array Value) : w.grownBy (w.setRow g cs) (some g) := ⟨rfl, rfl, rfl, by simp, fun k _ hk => setRow_other w g k cs (fun e => hk (by rw [e]))⟩

/-- A whole array stored into a block that is known: the world behind it is a variable. -/
theorem wpList_store_blk {P : Program} {ops : Array Oper} {rest : List Oper} {o : Oper} {a : Act} {w : World} {Q : Exit → Act → World → Prop} (hgd : o.guard = none) (ty : TypeId) (x y : Operand) (ho : o.op = .store ty x y)
    (g : Nat) (cs : Array Value) (hx : a.eval x = .pointer (some ⟨g, 0, none⟩)) (hy : a.eval y = .agg cs) (t : TypeId) (old : Array Value) (hg : Blk w g t old)
    (hi : (P.info? ty).map (·.size) = some cs.size) (hsz : old.size = cs.size) (h1 : cs.all (·.oneCell') = true)
    (hK : ∀ w', Blk w' g t cs → w.grownBy w' (some g) → wpList P ops Q rest (a.put o.dst undef) w') : wpList P ops Q (o :: rest) a w := by
  refine wpList_plain hgd fun K hK' => ?_
  unfold Oper.wp execOp
  simp only [ho, hx, hy, Instr.storeAt, Instr.sureAddr, Sem.run_bind, Sem.run_pure, Result.andThen_ok, run_storeVar_row w g t ty old cs hg hi hsz h1]
  exact hK' _ _ (hK _ (hg.row cs) (grownBy_setRow w g cs))
/-- A whole array read out of a block that is known. -/
theorem wpList_load_blk {P : Program} {ops : Array Oper} {rest : List Oper} {o : Oper} {a : Act} {w : World} {Q : Exit → Act → World → Prop} (hgd : o.guard = none) (ty : TypeId) (x : Operand) (ho : o.op = .load ty x)
    (g : Nat) (hx : a.eval x = .pointer (some ⟨g, 0, none⟩)) (t : TypeId) (cs : Array Value) (n : Nat) (e : TypeId) (hg : Blk w g t cs)
    (hu : P.underlying ty = some (.array n e)) (hi : (P.info? ty).map (·.size) = some cs.size)
    (h : wpList P ops Q rest (a.put o.dst (.agg cs)) w) : wpList P ops Q (o :: rest) a w :=
  wpList_load_row hgd ty x ho g hx t cs (0, 0) _ hg hu rfl hi h
/-- Two results, the first an array in a block that is known. -/
theorem results_blk_tmp {P : Program} {fn : Func} {p q : Tmp} {ty : TypeId} (h : fn.results = #[.cell p ty, .tmp q]) (tmps : Array Value) (w : World) (g : Nat) (t : TypeId) (cs : Array Value) (n : Nat) (e : TypeId)
    (hp : tmps.getD p undef = .pointer (some ⟨g, 0, none⟩)) (hg : Blk w g t cs) (hu : P.underlying ty = some (.array n e)) (hi : (P.info? ty).map (·.size) = some cs.size) :
    (results fn tmps).run P w = .ok (.tuple #[.agg cs, tmps.getD q undef]) w := by
  have hp' : tmps[p]?.getD undef = .pointer (some ⟨g, 0, none⟩) := by simpa using hp
  simp [results, h, hp', asAddr, run_loadVar_row w g t ty cs (0, 0) _ hg hu rfl hi]
theorem results_blk {P : Program} {fn : Func} {p : Tmp} {ty : TypeId} (h : fn.results = #[.cell p ty]) (tmps : Array Value) (w : World) (g : Nat) (t : TypeId) (cs : Array Value) (n : Nat) (e : TypeId)
    (hp : tmps.getD p undef = .pointer (some ⟨g, 0, none⟩)) (hg : Blk w g t cs) (hu : P.underlying ty = some (.array n e)) (hi : (P.info? ty).map (·.size) = some cs.size) :
    (results fn tmps).run P w = .ok (.agg cs) w :=
  results_cell_row h tmps w g t cs (0, 0) _ hp hg hu rfl hi
theorem dr2 {w : World} {m n : Nat} : ∃ k, (w.drewN m).drewN n = w.drewN k := ⟨m + n, by rw [World.drewN_drewN]⟩
theorem dr0 {w : World} : ∃ k, w = w.drewN k := ⟨0, rfl⟩
theorem below_drewN (B : Nat) (w : World) (n : Nat) : Below B w (w.drewN n) := ⟨rfl, rfl, rfl, Nat.le_refl _, fun _ _ => rfl⟩
theorem ret_eq {a b : Value} (h : a = b) : Ending.returned a = .returned b := by rw [h]
theorem ret_int {k : IntKind} {a b : Int} (h : a = b) : Ending.returned (.int k a) = .returned (.int k b) := by rw [h]
theorem ret_bool {a b : Bool} (h : a = b) : Ending.returned (.bool a) = .returned (.bool b) := by rw [h]

theorem Try.infoInt : (Try.prog.info? 3).map (fun i => (i.zero, i.size, i.bytes)) = some (some (.int .i64 0), 1, 8) := by kernel_rfl
end Go.Proofs.Ythinbmjcdcmioaa

/-
  The helpers of the exact laws by their contracts: copying, comparing, marking, holding a slice of integers. Conditions: the length is at most 2^40.
-/

namespace Go.Proofs.Ythinbmjcdcmioaa
open Go.RowKit

/-- What a copying loop has made after k rounds. -/
def copied (xs : List Int) (k : Nat) : List Value := (xs.take k).map (Value.int .i64) ++ List.replicate (xs.length - k) (.int .i64 0)
theorem copied_zero (xs : List Int) : copied xs 0 = List.replicate xs.length (.int .i64 0) := by simp [copied]
theorem copied_all (xs : List Int) : copied xs xs.length = xs.map (Value.int .i64) := by simp [copied]
theorem copied_len (xs : List Int) (k : Nat) (h : k ≤ xs.length) : (copied xs k).length = xs.length := by simp [copied]; omega
theorem copied_get (xs : List Int) (k : Nat) (h : k < xs.length) : (copied xs k)[k]? = some (.int .i64 0) := by
  unfold copied
  rw [List.getElem?_append_right (by simp; omega)]
  rw [List.getElem?_replicate]
  simp; omega
theorem copied_succ (xs : List Int) (k : Nat) (h : k < xs.length) : (copied xs k).set k (.int .i64 (nth xs k)) = copied xs (k + 1) := by
  unfold copied
  have hl : (List.map (Value.int .i64) (xs.take k)).length = k := by simp; omega
  rw [List.set_append_right _ _ (by omega), hl]
  have e : xs.length - k = (xs.length - (k + 1)) + 1 := by omega
  rw [e, List.replicate_succ, Nat.sub_self, List.set_cons_zero, take_nth h, List.map_append, List.append_assoc]
  rfl

set_option maxHeartbeats 400000 in
/-- toIntS: a copy of its own. -/
theorem toIntS_any (A : Option Addr) (n c : Nat) (xs : List Int) (w : World) (hs : SI w A n xs) (hn : n ≤ 1099511627776) :
    Calls Try.prog 16 #[.slice A n c] w fun e w' =>
      e = .returned (.slice (some ⟨w.heap.size, 0, none⟩) n n) ∧ w'.ownsRow w.heap.size 3 1 (.slice (some ⟨w.heap.size, 0, none⟩) n n) n (xs.map (Value.int .i64)) ∧ Below w.heap.size w w' := by
  obtain ⟨i0, hi, hz0, hz1, hz2⟩ := info_parts Try.infoInt
  have hl := hs.1
  obtain ⟨B, hB⟩ : ∃ B, B = w.heap.size := ⟨_, rfl⟩
  have HB : Hid (B = w.heap.size) := hB
  have hBle : B ≤ w.heap.size := by omega
  go_enter Try.func16, Try.ntmps16
  go_wp2_with (at_make; refine wpList_make_full _ rfl (.tmp 6) (.tmp 6) 22 rfl w.heap.size 3 i0 (.int .i64 0) 1 Try.underlying22 hi hz0 hz1 .i64 .i64 (n : Int) (n : Int) n rfl rfl rfl rfl (by rw [hz2]; omega) (by unfold maxLen; omega) (Nat.le_refl _) ?_; intro w1 hown hgrow)
  rw [← hB] at hown ⊢
  go_loopw [4] (fun i wr => ∃ k : Nat, k ≤ n ∧ i = .int .i64 k ∧ wr.ownsRow B 3 1 (.slice (some ⟨B, 0, none⟩) n n) n (copied xs k) ∧ Below B w wr)
    (fun i _ => n - (intOf i).toNat)
  case atStart =>
    refine ⟨0, Nat.zero_le _, rfl, ?_, ?_⟩
    · rw [copied_zero, hl]
      simpa [toList_madeCells_one, Value.cells] using hown
    · exact ((Below.refl _ _).grown hgrow (by omega) (by intro k hk; cases hk))
  case round =>
    obtain ⟨k, hk, rfl, hown, hbel⟩ := hrel
    by_cases hlt : k < n
    · obtain ⟨b, o, rfl, hb, hc⟩ := hs.at_ (by omega)
      have hc1 : wr.cell? ⟨b, o + k, none⟩ = some (.int .i64 (nth xs k)) := (hbel.cell (p := ⟨b, o + k, none⟩) (by show b < B; omega)).trans (hc k hlt)
      have hc2 : wr.cell? ⟨B, k, none⟩ = some (.int .i64 0) := (hown.cellAt k (by omega)).trans (copied_get xs k (by omega))
      have hf2 : wr.frozen? ⟨B, k, none⟩ = false := hown.frozenAt k
      have hst := (hown.stored k (.int .i64 (nth xs k))).1
      rw [copied_succ xs k (by omega)] at hst
      have HS := Lib.hid hst
      have HBel := Lib.hid hbel
      clear hst hown hbel hc hB
      go_wp2
      go_roundw
      case rel => exact ⟨k + 1, by omega, by go_num, HS.out, HBel.out.setCell (Nat.le_refl _) _⟩
      case measure => simp [intOf]; omega
    · have hkn : k = n := by omega
      subst hkn
      go_wp2
      go_ret
      obtain rfl := HB.out
      refine ⟨rfl, ?_, ?_⟩
      · rw [← hl, copied_all] at hown; rw [← hl]; exact hown
      · exact hbel
/-- Equality of two lists as a Bool (not unfolded by the walk). -/
def eqL (xs ys : List Int) : Bool := decide (xs = ys)
theorem eqL_self (xs : List Int) : eqL xs xs = true := by simp [eqL]
theorem eqL_len {xs ys : List Int} (h : xs.length ≠ ys.length) : eqL xs ys = false := by
  simp only [eqL, decide_eq_false_iff_not]; intro e; exact h (by rw [e])
theorem eqL_all {xs ys : List Int} (hl : xs.length = ys.length) (h : ∀ j, j < xs.length → nth xs j = nth ys j) : eqL xs ys = true := by
  simp only [eqL, decide_eq_true_eq]
  apply List.ext_getElem hl
  intro j h1 h2
  have := h j h1
  rwa [nth_get h1, nth_get h2] at this
theorem eqL_ne {xs ys : List Int} {k : Nat} (h : nth xs k ≠ nth ys k) : eqL xs ys = false := by
  simp only [eqL, decide_eq_false_iff_not]; intro e; exact h (by rw [e])

set_option maxHeartbeats 400000 in
/-- eqIntS: are the two lists one. -/
theorem eqIntS_any (A A' : Option Addr) (n c n' c' : Nat) (xs ys : List Int) (w : World) (hs : SI w A n xs) (hs' : SI w A' n' ys) (hn : n ≤ 1099511627776) (hn' : n' ≤ 1099511627776) :
    Calls Try.prog 18 #[.slice A n c, .slice A' n' c'] w fun e w' => e = .returned (.bool (eqL xs ys)) ∧ Drawn w w' := by
  have hl := hs.1
  have hl' := hs'.1
  by_cases hne : n = n'
  · subst hne
    go_enter Try.func18, Try.ntmps18
    go_wp2
    go_loopw [5] (fun i wr => ∃ k : Nat, k ≤ n ∧ i = .int .i64 k ∧ Drawn w wr ∧ ∀ j, j < k → nth xs j = nth ys j)
      (fun i _ => n - (intOf i).toNat)
    case atStart => exact ⟨0, Nat.zero_le _, rfl, Drawn.refl _, fun j hj => absurd hj (by omega)⟩
    case round =>
      obtain ⟨k, hk, rfl, hD, hall⟩ := hrel
      have HA := Lib.hid hall
      have hs := hD.si hs
      have hs' := hD.si hs'
      have HD := Lib.hid hD
      clear hall hD
      by_cases hlt : k < n
      · obtain ⟨b, o, rfl, hb, hc⟩ := hs.at_ (by omega)
        obtain ⟨b', o', rfl, hb', hc'⟩ := hs'.at_ (by omega)
        have hc1 := hc k hlt
        have hc1' := hc' k hlt
        clear hc hc' hs hs' hl hl'
        by_cases heq : nth xs k = nth ys k
        · have HE := Lib.hid heq
          rw [← heq] at hc1'
          clear heq
          obtain ⟨x, hx⟩ : ∃ x, x = nth xs k := ⟨_, rfl⟩
          rw [← hx] at hc1 hc1'
          clear hx
          have hlI : (k : Int) < (n : Int) := by omega
          go_wp2_with fail
          go_quiet (fail)
          go_wp2
          go_roundw
          case rel => exact ⟨k + 1, by omega, by go_num, HD.out.drewN _, fun j hj => by
            rcases Nat.lt_or_ge j k with h | h
            · exact HA.out j h
            · obtain rfl : j = k := by omega
              exact HE.out⟩
          case measure => simp [intOf]; omega
        · have HE := Lib.hid heq
          obtain ⟨x, hx⟩ : ∃ x, x = nth xs k := ⟨_, rfl⟩
          obtain ⟨y, hy⟩ : ∃ y, y = nth ys k := ⟨_, rfl⟩
          rw [← hx] at hc1 heq
          rw [← hy] at hc1' heq
          clear hx hy
          have hlI : (k : Int) < (n : Int) := by omega
          have hb : (x != y) = true := by simpa using heq
          clear heq
          go_wp2_with fail
          go_quiet (fail)
          go_wp2
          go_ret
          exact ⟨ret_bool (eqL_ne HE.out).symm, HD.out.drewN _⟩
      · have hkn : k = n := by omega
        subst hkn
        go_wp2
        go_ret
        exact ⟨ret_bool (eqL_all (by omega) (by rw [hl]; exact HA.out)).symm, HD.out⟩
  · have hne' : ¬ (n : Int) = (n' : Int) := by omega
    go_enter Try.func18, Try.ntmps18
    go_wp2
    go_ret
    exact ⟨ret_bool (eqL_len (by omega)).symm, Drawn.refl _⟩

/-- The numbers j, j+1, .. that marking writes: k of them, over the first k places. -/
def marked (xs : List Int) (q : Int) (k : Nat) : List Value := (List.range k).map (fun (j : Nat) => Value.int .i64 (q + j)) ++ (xs.drop k).map (Value.int .i64)
def marks (n : Nat) (q : Int) : List Int := (List.range n).map (fun (j : Nat) => q + j)
theorem marked_zero (xs : List Int) (q : Int) : marked xs q 0 = xs.map (Value.int .i64) := by simp [marked]
theorem marked_all (xs : List Int) (q : Int) : marked xs q xs.length = (marks xs.length q).map (Value.int .i64) := by simp [marked, marks]
theorem marked_get (xs : List Int) (q : Int) (k : Nat) (h : k < xs.length) : (marked xs q k)[k]? = some (.int .i64 (nth xs k)) := by
  unfold marked
  rw [List.getElem?_append_right (by simp)]
  simp [nth_get h, h]
theorem marked_succ (xs : List Int) (q : Int) (k : Nat) (h : k < xs.length) : (marked xs q k).set k (.int .i64 (q + k)) = marked xs q (k + 1) := by
  unfold marked
  rw [List.set_append_right _ _ (by simp)]
  rw [List.drop_eq_getElem_cons h, List.range_succ]
  simp only [List.length_map, List.length_range, Nat.sub_self, List.map_cons, List.set_cons_zero, List.map_append, List.append_assoc, List.map_nil]
  rfl
theorem marks_len (n : Nat) (q : Int) : (marks n q).length = n := by simp [marks]
theorem marks_nth (n : Nat) (q : Int) (k : Nat) (h : k < n) : nth (marks n q) k = q + k := by simp [nth, marks, List.getD, h]

set_option maxHeartbeats 400000 in
/-- markIntS on a slice of the call's own: it then holds q, q+1, .. -/
theorem markIntS_own (g n c : Nat) (xs : List Int) (q : Int) (base : Nat) (w : World) (hs : w.ownsRow base 3 1 (.slice (some ⟨g, 0, none⟩) n c) n (xs.map (Value.int .i64)))
    (hn : n ≤ 1099511627776) (hq : 0 ≤ q) (hq' : q ≤ 1099511627776) :
    Calls Try.prog 21 #[.slice (some ⟨g, 0, none⟩) n c, .int .i64 q] w fun e w' =>
      e = .returned (.int .i64 (q + n)) ∧ w'.ownsRow base 3 1 (.slice (some ⟨g, 0, none⟩) n c) n ((marks n q).map (Value.int .i64)) ∧ w.grownBy w' (some g) := by
  have hl : xs.length = n := by have := hs.1; simpa using this
  go_enter Try.func21, Try.ntmps21
  go_wp2
  go_loopw [1, 5] (fun p i wr => ∃ k : Nat, k ≤ n ∧ i = .int .i64 k ∧ p = .int .i64 (q + k) ∧ wr.ownsRow base 3 1 (.slice (some ⟨g, 0, none⟩) n c) n (marked xs q k) ∧ w.grownBy wr (some g))
    (fun _ i _ => n - (intOf i).toNat)
  case atStart => exact ⟨0, Nat.zero_le _, rfl, by simp, by rw [marked_zero]; exact hs, World.grownBy.refl _ _⟩
  case round =>
    obtain ⟨k, hk, rfl, rfl, hown, hgr⟩ := hrel
    by_cases hlt : k < n
    · have hc2 : wr.cell? ⟨g, k, none⟩ = some (.int .i64 (nth xs k)) := (hown.cellAt k (by omega)).trans (marked_get xs q k (by omega))
      have hf2 : wr.frozen? ⟨g, k, none⟩ = false := hown.frozenAt k
      have hst := hown.stored k (.int .i64 (q + k))
      rw [marked_succ xs q k (by omega)] at hst
      have HS := Lib.hid hst.1
      have HG := Lib.hid (hgr.trans hst.2)
      clear hst hown hgr
      go_wp2
      go_roundw
      case rel => exact ⟨k + 1, by omega, by go_num, by go_num, HS.out, HG.out⟩
      case measure => simp [intOf]; omega
    · have hkn : k = n := by omega
      subst hkn
      go_wp2
      go_ret
      refine ⟨rfl, ?_, hgr⟩
      rw [← hl, marked_all] at hown; rw [← hl]; exact hown

set_option maxHeartbeats 400000 in
/-- heldIntS where the marks are held. -/
theorem heldIntS_yes (A : Option Addr) (n c : Nat) (q : Int) (w : World) (hs : SI w A n (marks n q)) (hn : n ≤ 1099511627776) (hq : 0 ≤ q) (hq' : q ≤ 1099511627776) :
    Calls Try.prog 22 #[.slice A n c, .int .i64 q] w fun e w' => e = .returned (.int .i64 (q + n)) ∧ Drawn w w' := by
  go_enter Try.func22, Try.ntmps22
  go_wp2
  go_loopw [1, 5] (fun p i wr => ∃ k : Nat, k ≤ n ∧ i = .int .i64 k ∧ p = .int .i64 (q + k) ∧ Drawn w wr)
    (fun _ i _ => n - (intOf i).toNat)
  case atStart => exact ⟨0, Nat.zero_le _, rfl, by simp, Drawn.refl _⟩
  case round =>
    obtain ⟨k, hk, rfl, rfl, hD⟩ := hrel
    have hs := hD.si hs
    have HD := Lib.hid hD
    clear hD
    by_cases hlt : k < n
    · obtain ⟨b, o, rfl, hb, hc⟩ := hs.at_ (by omega)
      have hc1 := hc k hlt
      rw [marks_nth n q k hlt] at hc1
      clear hc hs
      go_wp2
      go_roundw
      case rel => exact ⟨k + 1, by omega, by go_num, by go_num, HD.out⟩
      case measure => simp [intOf]; omega
    · have hkn : k = n := by omega
      subst hkn
      go_wp2
      go_ret
      exact ⟨rfl, HD.out⟩
end Go.Proofs.Ythinbmjcdcmioaa

/-
  What a permutation is: the specification's test by its contract. Conditions: the length is at most 2^40.
-/

namespace Go.Proofs.Ythinbmjcdcmioaa
open Go.RowKit

/-- Is a number among the first of a list (not unfolded by the walk). -/
def hasB (xs : List Int) (x : Int) : Bool := decide (x ∈ xs)
/-- Is place k of the list one that a permutation may have. -/
def goodAt (xs : List Int) (k : Nat) : Prop := 0 ≤ nth xs k ∧ nth xs k ≤ (xs.length : Int) - 1 ∧ hasB (xs.take k) (nth xs k) = false
instance (xs : List Int) (k : Nat) : Decidable (goodAt xs k) := by unfold goodAt; infer_instance
def isPermP (xs : List Int) : Prop := 1 ≤ xs.length ∧ xs.length ≤ 7 ∧ ∀ k, k < xs.length → goodAt xs k
/-- Is the list a permutation (not unfolded by the walk). -/
def isPermB (xs : List Int) : Bool := decide (1 ≤ xs.length) && decide (xs.length ≤ 7) && (List.range xs.length).all fun k => decide (goodAt xs k)
theorem isPermB_iff (xs : List Int) : isPermB xs = true ↔ isPermP xs := by
  simp [isPermB, isPermP, and_assoc]
theorem isPermB_true {xs : List Int} (h : isPermP xs) : isPermB xs = true := (isPermB_iff xs).2 h
theorem isPermB_false {xs : List Int} (h : ¬ isPermP xs) : isPermB xs = false := by
  cases hb : isPermB xs with
  | false => rfl
  | true => exact absurd ((isPermB_iff xs).1 hb) h
theorem hasB_nil (x : Int) : hasB [] x = false := by simp [hasB]
theorem hasB_hit {xs : List Int} {k : Nat} (hk : k < xs.length) : hasB xs (nth xs k) = true := by
  rw [nth_get hk]; simp [hasB]
theorem hasB_all {xs : List Int} {x : Int} (h : ∀ j, j < xs.length → nth xs j ≠ x) : hasB xs x = false := by
  simp only [hasB, decide_eq_false_iff_not]
  intro hm
  obtain ⟨j, hj, e⟩ := List.mem_iff_getElem.1 hm
  exact h j hj (by rw [nth_get hj]; exact e)

theorem l1In_any (a lo hi : Int) (w : World) :
    Calls Try.prog 55 #[.int .i64 a, .int .i64 lo, .int .i64 hi] w fun e w' => e = .returned (.bool (decide (lo ≤ a) && decide (a ≤ hi))) ∧ w = w' := by
  by_cases h1 : lo ≤ a
  · by_cases h2 : a ≤ hi
    · go_enter Try.func55, Try.ntmps55
      go_wp2
      go_ret
      exact ⟨ret_bool (by simp [h1, h2]), rfl⟩
    · go_enter Try.func55, Try.ntmps55
      go_wp2
      go_ret
      exact ⟨ret_bool (by simp [h2]), rfl⟩
  · have h1' : a < lo := by omega
    go_enter Try.func55, Try.ntmps55
    go_wp2
    go_ret
    exact ⟨ret_bool (by simp; intro; omega), rfl⟩
theorem l1In_yes' {a lo hi : Int} (h : lo ≤ a) (h' : a ≤ hi) (w : World) :
    Calls Try.prog 55 #[.int .i64 a, .int .i64 lo, .int .i64 hi] w fun e w' => e = .returned (.bool true) ∧ w = w' := by
  have := l1In_any a lo hi w
  simpa [h, h'] using this
theorem l1In_no' {a lo hi : Int} (h : a < lo ∨ hi < a) (w : World) :
    Calls Try.prog 55 #[.int .i64 a, .int .i64 lo, .int .i64 hi] w fun e w' => e = .returned (.bool false) ∧ w = w' := by
  have e : (decide (lo ≤ a) && decide (a ≤ hi)) = false := by simp; omega
  have := l1In_any a lo hi w
  rwa [e] at this
theorem l1In_yes {a lo hi : Int} (h : lo ≤ a) (h' : a ≤ hi) (w : World) :
    Calls Try.prog 55 #[.int .i64 a, .int .i64 lo, .int .i64 hi] w fun e w' => e = .returned (.bool true) ∧ Drawn w w' :=
  (l1In_yes' h h' w).mono fun _ _ ⟨he, hw⟩ => ⟨he, hw ▸ Drawn.refl _⟩
theorem l1In_no {a lo hi : Int} (h : a < lo ∨ hi < a) (w : World) :
    Calls Try.prog 55 #[.int .i64 a, .int .i64 lo, .int .i64 hi] w fun e w' => e = .returned (.bool false) ∧ Drawn w w' :=
  (l1In_no' h w).mono fun _ _ ⟨he, hw⟩ => ⟨he, hw ▸ Drawn.refl _⟩

set_option maxHeartbeats 400000 in
theorem l1Has_any (A : Option Addr) (n c : Nat) (xs : List Int) (x : Int) (w : World) (hs : SI w A n xs) (hn : n ≤ 1099511627776) :
    Calls Try.prog 99 #[.slice A n c, .int .i64 x] w fun e w' => e = .returned (.bool (hasB xs x)) ∧ Drawn w w' := by
  have hl := hs.1
  go_enter Try.func99, Try.ntmps99
  go_wp2
  go_loopw [5] (fun i wr => ∃ k : Nat, k ≤ n ∧ i = .int .i64 k ∧ Drawn w wr ∧ ∀ j, j < k → nth xs j ≠ x)
    (fun i _ => n - (intOf i).toNat)
  case atStart => exact ⟨0, Nat.zero_le _, rfl, Drawn.refl _, fun j hj => absurd hj (by omega)⟩
  case round =>
    obtain ⟨k, hk, rfl, hD, hall⟩ := hrel
    have HA := Lib.hid hall
    have hs := hD.si hs
    have HD := Lib.hid hD
    clear hall hD
    by_cases hlt : k < n
    · obtain ⟨b, o, rfl, hb, hc⟩ := hs.at_ (by omega)
      have hc1 := hc k hlt
      have HL := Lib.hid hl
      clear hc hs hl
      by_cases heq : nth xs k = x
      · have HE := Lib.hid heq
        rw [heq] at hc1
        clear heq
        go_wp2
        go_ret
        refine ⟨ret_bool ?_, HD.out⟩
        rw [← HE.out]
        exact (hasB_hit (by have := HL.out; omega)).symm
      · have HE := Lib.hid heq
        obtain ⟨y, hy⟩ : ∃ y, y = nth xs k := ⟨_, rfl⟩
        rw [← hy] at hc1 heq
        clear hy
        have hb : (y == x) = false := by simpa using heq
        clear heq
        go_wp2
        go_roundw
        case rel => exact ⟨k + 1, by omega, by go_num, HD.out, fun j hj => by
          rcases Nat.lt_or_ge j k with h | h
          · exact HA.out j h
          · obtain rfl : j = k := by omega
            exact HE.out⟩
        case measure => simp [intOf]; omega
    · have hkn : k = n := by omega
      subst hkn
      go_wp2
      go_ret
      refine ⟨ret_bool ?_, HD.out⟩
      exact (hasB_all (by rw [hl]; exact HA.out)).symm

set_option maxHeartbeats 800000 in
theorem specIsPerm_any (A : Option Addr) (n c : Nat) (xs : List Int) (w : World) (hs : SI w A n xs) (hnc : n ≤ c) (hn : n ≤ 1099511627776) :
    Calls Try.prog 86 #[.slice A n c] w fun e w' => e = .returned (.bool (isPermB xs)) ∧ Drawn w w' := by
  have hl := hs.1
  by_cases hsz : 1 ≤ n ∧ n ≤ 7
  · obtain ⟨hs1, hs7⟩ := hsz
    go_enter Try.func86, Try.ntmps86
    go_wp2_with (go_at_call 55; refine (l1In_yes (by omega) (by omega) _).mono ?_; rintro e w1 ⟨rfl, hD1⟩)
    go_loopw [3] (fun i wr => ∃ k : Nat, k ≤ n ∧ i = .int .i64 k ∧ Drawn w wr ∧ ∀ j, j < k → goodAt xs j)
      (fun i _ => n - (intOf i).toNat)
    case atStart => exact ⟨0, Nat.zero_le _, rfl, hD1, fun j hj => absurd hj (by omega)⟩
    case round =>
      obtain ⟨k, hk, rfl, hD, hall⟩ := hrel
      have HA := Lib.hid hall
      have HL := Lib.hid hl
      have HD := Lib.hid hD
      have hs := hD.si hs
      clear hall hl hD hD1
      by_cases hlt : k < n
      · obtain ⟨b, o, e1, hb, hc⟩ := hs.at_ (by omega)
        have hst := hs.take (k := k) (by omega)
        subst e1
        have hc1 := hc k hlt
        have HST := Lib.hid hst
        clear hc hs hst
        obtain ⟨x, hx⟩ : ∃ x, x = nth xs k := ⟨_, rfl⟩
        obtain ⟨ys, hy⟩ : ∃ ys, ys = xs.take k := ⟨_, rfl⟩
        rw [← hx] at hc1
        rw [← hy] at HST
        have HX := Lib.hid hx
        have HY := Lib.hid hy
        clear hx hy
        have hlI : (k : Int) < (n : Int) := by omega
        have hwr : IntKind.i64.wrap ((n : Int) - 1) = (n : Int) - 1 := IntWalk.i64_in _ (by omega)
        by_cases hr : 0 ≤ x ∧ x ≤ (n : Int) - 1
        · obtain ⟨hx0, hx1⟩ := hr
          go_wp2_with fail
          go_quiet ((first | (go_at_call 55; go_must (refine Calls.quiet_of (l1In_yes hx0 hx1 _))) | (go_at_call 99; exact Calls.quiet_of (l1Has_any _ _ _ ys _ _ HST.out (by omega)))))
          go_wp2
          · have hh : hasB ys x = true := by assumption
            go_ret
            refine ⟨ret_bool ?_, HD.out.drewN _⟩
            refine (isPermB_false ?_).symm
            intro hp
            obtain ⟨_, _, g3⟩ := (hp.2.2 k (by have := HL.out; omega))
            rw [← HX.out, ← HY.out, hh] at g3
            cases g3
          · have hh' : hasB ys x = false := by assumption
            have HG : goodAt xs k := by
              have e1 := HX.out
              have e2 := HY.out
              have e3 := HL.out
              refine ⟨by omega, by omega, by rw [← e1, ← e2]; exact hh'⟩
            go_roundw
            case rel => exact ⟨k + 1, by omega, by go_num, HD.out.drewN _, fun j hj => by
              rcases Nat.lt_or_ge j k with h | h
              · exact HA.out j h
              · obtain rfl : j = k := by omega
                exact HG⟩
            case measure => simp [intOf]; omega
        · go_wp2_with fail
          go_quiet ((first | (go_at_call 55; exact Calls.quiet_of (l1In_no (by omega) _))))
          go_wp2
          go_ret
          refine ⟨ret_bool ?_, HD.out.drewN _⟩
          refine (isPermB_false ?_).symm
          intro hp
          have := (hp.2.2 k (by have := HL.out; omega))
          obtain ⟨g1, g2, _⟩ := this
          rw [← HX.out] at g1 g2
          rw [HL.out] at g2
          exact hr ⟨g1, g2⟩
      · have hkn : k = n := by omega
        subst hkn
        go_wp2
        go_ret
        refine ⟨ret_bool ?_, HD.out⟩
        exact (isPermB_true ⟨by have := HL.out; omega, by have := HL.out; omega, by rw [HL.out]; exact HA.out⟩).symm
  · go_enter Try.func86, Try.ntmps86
    go_wp2_with (go_at_call 55; refine (l1In_no (by omega) _).mono ?_; rintro e w1 ⟨rfl, hD1⟩)
    go_ret
    refine ⟨ret_bool ?_, hD1⟩
    exact (isPermB_false (fun hp => hsz ⟨by have := hp.1; omega, by have := hp.2.1; omega⟩)).symm
theorem specIsPerm_is {A : Option Addr} {n : Nat} (c : Nat) {xs : List Int} {w : World} {b : Bool} (hb : isPermB xs = b) (hs : SI w A n xs) (hnc : n ≤ c) (hn : n ≤ 1099511627776) :
    Calls Try.prog 86 #[.slice A n c] w fun e w' => e = .returned (.bool b) ∧ Drawn w w' := by
  subst hb; exact specIsPerm_any A n c xs w hs hnc hn
theorem isPermB_P {xs : List Int} (h : isPermB xs = true) : isPermP xs := (isPermB_iff xs).1 h
theorem isPermP.range {xs : List Int} (h : isPermP xs) (k : Nat) (hk : k < xs.length) : 0 ≤ nth xs k ∧ nth xs k < (xs.length : Int) := by
  obtain ⟨h1, h2, _⟩ := h.2.2 k hk
  omega
end Go.Proofs.Ythinbmjcdcmioaa

/-
  What a shape is: the tests of both sides. Conditions: the length is at most 2^40.
-/

namespace Go.Proofs.Ythinbmjcdcmioaa
open Go.RowKit

/-- What a place of a shape may be at most: what stands before it, 16 at the first one. -/
def prevS (xs : List Int) : Nat → Int
  | 0 => 16
  | k + 1 => nth xs k
/-- Is place k of a list one that a shape may have. -/
def shapeAt (xs : List Int) (k : Nat) : Prop := 1 ≤ nth xs k ∧ nth xs k ≤ prevS xs k
instance (xs : List Int) (k : Nat) : Decidable (shapeAt xs k) := by unfold shapeAt; infer_instance
def isShapeP (xs : List Int) : Prop := xs.length ≤ 16 ∧ ∀ k, k < xs.length → shapeAt xs k
def isShapeB (xs : List Int) : Bool := decide (xs.length ≤ 16) && (List.range xs.length).all fun k => decide (shapeAt xs k)
theorem isShapeB_iff (xs : List Int) : isShapeB xs = true ↔ isShapeP xs := by simp [isShapeB, isShapeP]
theorem isShapeB_P {xs : List Int} (h : isShapeB xs = true) : isShapeP xs := (isShapeB_iff xs).1 h
theorem isShapeB_true {xs : List Int} (h : isShapeP xs) : isShapeB xs = true := (isShapeB_iff xs).2 h
theorem isShapeB_false {xs : List Int} (h : ¬ isShapeP xs) : isShapeB xs = false := by
  cases hb : isShapeB xs with
  | false => rfl
  | true => exact absurd (isShapeB_P hb) h
theorem prevS_le {xs : List Int} : ∀ {k : Nat}, (∀ j, j < k → shapeAt xs j) → prevS xs k ≤ 16
  | 0, _ => Int.le_refl _
  | k + 1, h => Int.le_trans (h k (by omega)).2 (prevS_le fun j hj => h j (by omega))

set_option maxHeartbeats 800000 in
theorem specIsShape_any (A : Option Addr) (n c : Nat) (xs : List Int) (w : World) (hs : SI w A n xs) (hn : n ≤ 1099511627776) :
    Calls Try.prog 15 #[.slice A n c] w fun e w' => e = .returned (.bool (isShapeB xs)) ∧ Drawn w w' := by
  have HL := Lib.hid hs.1
  by_cases h16 : n ≤ 16
  · go_enter Try.func15, Try.ntmps15
    go_wp2
    go_loopw [3] (fun i wr => ∃ k : Nat, k ≤ n ∧ i = .int .i64 k ∧ Drawn w wr ∧ ∀ j, j < k → shapeAt xs j)
      (fun i _ => n - (intOf i).toNat)
    case atStart => exact ⟨0, Nat.zero_le _, rfl, Drawn.refl _, fun j hj => absurd hj (by omega)⟩
    case round =>
      obtain ⟨k, hk, rfl, hD, hall⟩ := hrel
      have HA := Lib.hid hall
      have HD := Lib.hid hD
      have hs := hD.si hs
      clear hall hD
      by_cases hlt : k < n
      · obtain ⟨b, o, e1, hb, hc⟩ := hs.at_ (by omega)
        subst e1
        have hc1 := hc k hlt
        obtain ⟨x, hx⟩ : ∃ x, x = nth xs k := ⟨_, rfl⟩
        rw [← hx] at hc1
        have HX := Lib.hid hx
        have hlI : (k : Int) < (n : Int) := by omega
        by_cases hr : 1 ≤ x ∧ x ≤ 16
        · obtain ⟨hx0, hx1⟩ := hr
          cases k with
          | zero =>
            have HG : Hid (shapeAt xs 0) := Lib.hid (show 1 ≤ nth xs 0 ∧ nth xs 0 ≤ 16 by omega)
            rw [Nat.add_zero] at hc1
            clear hc hs hx
            go_wp2_with fail
            go_quiet ((go_at_call 55; exact Calls.quiet_of (l1In_yes hx0 hx1 _)))
            go_wp2
            go_roundw
            case rel => exact ⟨1, by omega, by go_num, HD.out.drewN _, fun j hj => by rw [show j = 0 from Nat.lt_one_iff.1 hj]; exact HG.out⟩
            case measure => simp [intOf]; omega
          | succ k =>
            have hc0 := hc k (by omega)
            obtain ⟨y, hy⟩ : ∃ y, y = nth xs k := ⟨_, rfl⟩
            rw [← hy] at hc0
            have HY := Lib.hid hy
            have hwk : IntKind.i64.wrap (((k + 1 : Nat) : Int) - 1) = (k : Int) := by rw [show ((k + 1 : Nat) : Int) - 1 = (k : Int) by omega]; exact IntWalk.i64_in _ (by omega)
            have hkI : (k : Int) < (n : Int) := by omega
            have hk0 : (0 : Int) < ((k + 1 : Nat) : Int) := by omega
            clear hc hs hx hy
            by_cases hyx : y < x
            · have HF := Lib.hid (isShapeB_false (xs := xs) (fun h => by
                have := (h.2 (k + 1) (by have := HL.out; omega)).2
                have e1 : prevS xs (k + 1) = nth xs k := rfl
                have := HX.out; have := HY.out
                omega))
              go_wp2_with fail
              go_quiet ((go_at_call 55; exact Calls.quiet_of (l1In_yes hx0 hx1 _)))
              go_wp2
              go_ret
              exact ⟨ret_bool HF.out.symm, HD.out.drewN _⟩
            · have HG : Hid (shapeAt xs (k + 1)) := Lib.hid (by
                have e1 : prevS xs (k + 1) = nth xs k := rfl
                have := HX.out; have := HY.out
                unfold shapeAt
                omega)
              go_wp2_with fail
              go_quiet ((go_at_call 55; exact Calls.quiet_of (l1In_yes hx0 hx1 _)))
              go_wp2
              go_roundw
              case rel => exact ⟨k + 1 + 1, by omega, by go_num, HD.out.drewN _, fun j hj => by
                rcases Nat.lt_or_ge j (k + 1) with h | h
                · exact HA.out j h
                · obtain rfl : j = k + 1 := by omega
                  exact HG.out⟩
              case measure => simp [intOf]; omega
        · have HF := Lib.hid (isShapeB_false (xs := xs) (fun h => by
            have h1 := h.2 k (by have := HL.out; omega)
            have h2 := prevS_le HA.out
            unfold shapeAt at h1
            have := HX.out
            omega))
          clear hc hs hx
          go_wp2_with fail
          go_quiet ((go_at_call 55; exact Calls.quiet_of (l1In_no (by omega) _)))
          go_wp2
          go_ret
          exact ⟨ret_bool HF.out.symm, HD.out.drewN _⟩
      · have hkn : k = n := by omega
        subst hkn
        go_wp2
        go_ret
        exact ⟨ret_bool (isShapeB_true ⟨by have := HL.out; omega, by rw [HL.out]; exact HA.out⟩).symm, HD.out⟩
  · have HF := Lib.hid (isShapeB_false (xs := xs) (fun h => by have := h.1; have := HL.out; omega))
    have h16' : (16 : Int) < (n : Int) := by omega
    go_enter Try.func15, Try.ntmps15
    go_wp2
    go_ret
    exact ⟨ret_bool HF.out.symm, Drawn.refl _⟩
set_option maxHeartbeats 800000 in
theorem implIsShape_any (A : Option Addr) (n c : Nat) (xs : List Int) (w : World) (hs : SI w A n xs) (hn : n ≤ 1099511627776) :
    Calls Try.prog 17 #[.slice A n c] w fun e w' => e = .returned (.bool (isShapeB xs)) ∧ Drawn w w' := by
  have HL := Lib.hid hs.1
  by_cases h16 : n ≤ 16
  · go_enter Try.func17, Try.ntmps17
    go_wp2
    go_loopw [3, 11] (fun m i wr => ∃ k : Nat, k ≤ n ∧ i = .int .i64 k ∧ m = .int .i64 (prevS xs k) ∧ Drawn w wr ∧ ∀ j, j < k → shapeAt xs j)
      (fun _ i _ => n - (intOf i).toNat)
    case atStart => exact ⟨0, Nat.zero_le _, rfl, rfl, Drawn.refl _, fun j hj => absurd hj (by omega)⟩
    case round =>
      obtain ⟨k, hk, rfl, rfl, hD, hall⟩ := hrel
      have HA := Lib.hid hall
      have HD := Lib.hid hD
      have hs := hD.si hs
      clear hall hD
      by_cases hlt : k < n
      · obtain ⟨b, o, e1, hb, hc⟩ := hs.at_ (by omega)
        subst e1
        have hc1 := hc k hlt
        obtain ⟨x, hx⟩ : ∃ x, x = nth xs k := ⟨_, rfl⟩
        rw [← hx] at hc1
        have HX := Lib.hid hx
        obtain ⟨y, hy⟩ : ∃ y, y = prevS xs k := ⟨_, rfl⟩
        rw [← hy]
        have HY := Lib.hid hy
        have hlI : (k : Int) < (n : Int) := by omega
        clear hc hs hx hy
        by_cases hg : 1 ≤ x ∧ x ≤ y
        · obtain ⟨hg1, hg2⟩ := hg
          have HG : Hid (shapeAt xs k) := Lib.hid (by have := HX.out; have := HY.out; unfold shapeAt; omega)
          go_wp2
          go_roundw
          case rel => exact ⟨k + 1, by omega, by go_num, by rw [HX.out]; rfl, HD.out, fun j hj => by
            rcases Nat.lt_or_ge j k with h | h
            · exact HA.out j h
            · obtain rfl : j = k := by omega
              exact HG.out⟩
          case measure => simp [intOf]; omega
        · have HF := Lib.hid (isShapeB_false (xs := xs) (fun h => by
            have h1 := h.2 k (by have := HL.out; omega)
            unfold shapeAt at h1
            have := HX.out; have := HY.out
            omega))
          by_cases hx1 : x < 1
          · go_wp2
            go_ret
            exact ⟨ret_bool HF.out.symm, HD.out⟩
          · have hyx : y < x := by omega
            clear hg
            go_wp2
            go_ret
            exact ⟨ret_bool HF.out.symm, HD.out⟩
      · have hkn : k = n := by omega
        subst hkn
        go_wp2
        go_ret
        exact ⟨ret_bool (isShapeB_true ⟨by have := HL.out; omega, by rw [HL.out]; exact HA.out⟩).symm, HD.out⟩
  · have HF := Lib.hid (isShapeB_false (xs := xs) (fun h => by have := h.1; have := HL.out; omega))
    have h16' : (16 : Int) < (n : Int) := by omega
    go_enter Try.func17, Try.ntmps17
    go_wp2
    go_ret
    exact ⟨ret_bool HF.out.symm, Drawn.refl _⟩
end Go.Proofs.Ythinbmjcdcmioaa

/-
  Slices of integers that a call owns: words and laws (appending one number, copying a whole slice, marking). No conditions beyond lengths below 2^40.
-/


namespace Go.Proofs.Ythinbmjcdcmioaa
open Go.RowKit

/-- The slice (A, n, c) holds the integers xs in a block of its own between lo and hi (or is nil). -/
def Own (w : World) (lo hi : Nat) (A : Option Addr) (n c : Nat) (xs : List Int) : Prop :=
  w.ownsRow lo 3 1 (.slice A n c) n (xs.map (Value.int .i64)) ∧ ∀ k, (Value.slice A n c).ownBlock = some k → k < hi

section
variable {w w' : World} {lo hi n c : Nat} {A : Option Addr} {xs : List Int}
theorem Own.len (h : Own w lo hi A n c xs) : xs.length = n := by simpa using h.1.1
theorem Own.si (h : Own w lo hi A n c xs) : SI w A n xs := SI.of_own h.1
theorem Own.cap (h : Own w lo hi A n c xs) : n ≤ c := by
  rcases h.1.2 with ⟨e, h0⟩ | ⟨g, cap, cur, e, _, _, hc, _⟩
  · omega
  · injection e with _ _ e3; omega
theorem Own.nil (w : World) (lo hi : Nat) : Own w lo hi none 0 0 [] := ⟨World.ownsRow_nil _ _ _ _, fun k hk => by simp [Value.ownBlock] at hk⟩
theorem Own.of (h : w.ownsRow lo 3 1 (.slice A n c) n (xs.map (Value.int .i64))) : Own w lo w.heap.size A n c xs := ⟨h, fun k hk => (h.lt k hk).2⟩
theorem Own.lt (h : Own w lo hi A n c xs) : ∀ k, (Value.slice A n c).ownBlock = some k → lo ≤ k ∧ k < hi := fun k hk => ⟨(h.1.lt k hk).1, h.2 k hk⟩
theorem Own.grown {row : Option Nat} (h : Own w lo hi A n c xs) (hg : w.grownBy w' row) (hr : ∀ g, row = some g → g < lo ∨ hi ≤ g) : Own w' lo hi A n c xs := by
  refine ⟨h.1.kept hg ?_, h.2⟩
  cases hb : (Value.slice A n c).ownBlock with
  | none => exact .inl rfl
  | some k =>
    refine .inr fun e => ?_
    have := h.lt k hb
    have := hr k e.symm
    omega
theorem Own.below {B : Nat} (h : Own w lo hi A n c xs) (hb : Below B w w') (hB : hi ≤ B) : Own w' lo hi A n c xs := by
  refine ⟨⟨h.1.1, ?_⟩, h.2⟩
  rcases h.1.2 with hn | ⟨g, cap, cur, e, hl, hg, rest⟩
  · exact .inl hn
  · have hlt := h.2 g (by rw [e]; rfl)
    exact .inr ⟨g, cap, cur, e, hl, (hb.block g (by omega)).trans hg, rest⟩
theorem Own.drawn (h : Own w lo hi A n c xs) (hd : Drawn w w') : Own w' lo hi A n c xs := h.below (hd.below hi) (Nat.le_refl _)
theorem Own.wide {lo' hi' : Nat} (h : Own w lo hi A n c xs) (h1 : lo' ≤ lo) (h2 : hi ≤ hi') : Own w lo' hi' A n c xs := by
  refine ⟨⟨h.1.1, ?_⟩, fun k hk => Nat.lt_of_lt_of_le (h.2 k hk) h2⟩
  rcases h.1.2 with hn | ⟨g, cap, cur, e, hl, rest⟩
  · exact .inl hn
  · exact .inr ⟨g, cap, cur, e, Nat.le_trans h1 hl, rest⟩
theorem Own.cellAt {g k : Nat} (h : Own w lo hi (some ⟨g, 0, none⟩) n c xs) (hk : k < n) : w.cell? ⟨g, k, none⟩ = some (.int .i64 (nth xs k)) := by
  have hl := h.len
  rw [h.1.cellAt k (by omega), List.getElem?_map, nth_get? (by omega)]; rfl
theorem Own.frozenAt {g : Nat} (h : Own w lo hi (some ⟨g, 0, none⟩) n c xs) (k : Nat) : w.frozen? ⟨g, k, none⟩ = false := h.1.frozenAt k
theorem Own.place (h : Own w lo hi A n c xs) (hn : 0 < n) : ∃ g, A = some ⟨g, 0, none⟩ ∧ lo ≤ g ∧ g < hi := by
  obtain ⟨g, cap, e, h1, h2⟩ := h.1.form hn
  have hA : A = some ⟨g, 0, none⟩ := by injection e
  subst hA
  exact ⟨g, rfl, h1, h.2 g rfl⟩
theorem Own.set_ {g k : Nat} (h : Own w lo hi (some ⟨g, 0, none⟩) n c xs) (x : Int) :
    Own (w.setCell ⟨g, k, none⟩ (.int .i64 x)) lo hi (some ⟨g, 0, none⟩) n c (xs.set k x) ∧ w.grownBy (w.setCell ⟨g, k, none⟩ (.int .i64 x)) (some g) := by
  obtain ⟨h1, h2⟩ := h.1.stored k (.int .i64 x)
  refine ⟨⟨?_, h.2⟩, h2⟩
  rw [List.map_set]
  exact h1
end
theorem Own.empty (w : World) : Own (w.alloc (.cells #[] 3)) w.heap.size (w.heap.size + 1) (some ⟨w.heap.size, 0, none⟩) 0 0 [] :=
  ⟨World.ownsRow_lit w #[] 0 (Nat.le_refl _) (Nat.zero_le _) rfl, fun k hk => by simp [Value.ownBlock] at hk; omega⟩
theorem Below.alloc_self (w : World) (o : Obj) : Below w.heap.size w (w.alloc o) := (Below.refl _ _).alloc (Nat.le_refl _) _
theorem _root_.Go.RowKit.Below.drawnN {B : Nat} {a w : World} (h : Below B a w) (n : Nat) : Below B a (w.drewN n) := h.trans ⟨rfl, rfl, rfl, Nat.le_refl _, fun _ _ => rfl⟩
theorem grow_below {B : Nat} {w w' : World} {row : Option Nat} (hg : w.grownBy w' row) (hB : B ≤ w.heap.size) (hr : ∀ k, row = some k → B ≤ k) : Below B w w' := (Below.refl B w).grown hg hB hr

/-- What a call that makes a new slice hands back. -/
def Fresh (w w' : World) (e : Ending) (ys : List Int) : Prop :=
  ∃ A n c, e = .returned (.slice A n c) ∧ Own w' w.heap.size w'.heap.size A n c ys ∧ Below w.heap.size w w'

theorem Own.apart {w w' : World} {lo hi n c lo' hi' n' c' : Nat} {A A' : Option Addr} {xs xs' : List Int} (ho : Own w lo hi A n c xs) (hx : Own w lo' hi' A' n' c' xs')
    (hg : w.grownBy w' (Value.slice A' n' c').ownBlock) (h : hi ≤ lo' ∨ hi' ≤ lo) : Own w' lo hi A n c xs :=
  ho.grown hg fun g e => by have := hx.lt g e; omega
theorem Own.mark_below {w w' : World} {B lo hi n c : Nat} {A : Option Addr} {xs : List Int} (hx : Own w lo hi A n c xs) (hg : w.grownBy w' (Value.slice A n c).ownBlock) (hB : B ≤ w.heap.size) (hl : B ≤ lo) : Below B w w' :=
  grow_below hg hB fun k e => by have := hx.lt k e; omega

theorem toIntS_fr (A : Option Addr) (n c : Nat) (xs : List Int) (w : World) (hs : SI w A n xs) (hn : n ≤ 1099511627776) :
    Calls Try.prog 16 #[.slice A n c] w fun e w' => Fresh w w' e xs :=
  (toIntS_any A n c xs w hs hn).mono fun _ _ ⟨he, ho, hb⟩ => ⟨_, _, _, he, Own.of ho, hb⟩

set_option maxHeartbeats 400000 in
/-- markIntS on any slice of the call's own, nil and empty ones among them. -/
theorem markIntS_any (A : Option Addr) (n c lo hi : Nat) (xs : List Int) (q : Int) (w : World) (hs : Own w lo hi A n c xs) (hn : n ≤ 1099511627776) (hq : 0 ≤ q) (hq' : q ≤ 1099511627776) :
    Calls Try.prog 21 #[.slice A n c, .int .i64 q] w fun e w' => e = .returned (.int .i64 (q + n)) ∧ Own w' lo hi A n c (marks n q) ∧ w.grownBy w' (Value.slice A n c).ownBlock := by
  by_cases h0 : 0 < n
  · obtain ⟨g, rfl, _, _⟩ := hs.place h0
    exact (markIntS_own g n c xs q lo w hs.1 hn hq hq').mono fun e w' ⟨he, ho, hg⟩ => ⟨he, ⟨ho, hs.2⟩, hg⟩
  · have hz : n = 0 := by omega
    subst hz
    have hx : xs = [] := List.eq_nil_of_length_eq_zero hs.len
    subst hx
    have HS := Lib.hid hs
    clear hs
    go_enter Try.func21, Try.ntmps21
    go_wp2
    refine wp_loop_rounds 1 ?_
    rw [rounds_succ]
    go_wp2
    go_ret
    exact ⟨by simp, HS.out, World.grownBy.refl _ _⟩

/-- 'make([]int, n)'. -/
theorem wpList_make_zero {ops : Array Oper} {rest : List Oper} {o : Oper} {a : Act} {w : World} {Q : Exit → Act → World → Prop} (hgd : o.guard = none) (l c : Operand) (ho : o.op = .makeSlice 22 l c)
    (n : Nat) (hl : a.eval l = .int .i64 n) (hc : a.eval c = .int .i64 n) (hn : n ≤ 1099511627776)
    (hK : ∀ w', Own w' w.heap.size w'.heap.size (some ⟨w.heap.size, 0, none⟩) n n (List.replicate n 0) → Below w.heap.size w w' → wpList Try.prog ops Q rest (a.put o.dst (.slice (some ⟨w.heap.size, 0, none⟩) n n)) w') :
    wpList Try.prog ops Q (o :: rest) a w := by
  obtain ⟨i0, hi, hz0, hz1, hz2⟩ := info_parts Try.infoInt
  refine wpList_make_full w hgd l c 22 ho w.heap.size 3 i0 (.int .i64 0) 1 Try.underlying22 hi hz0 hz1 .i64 .i64 n n n hl hc rfl rfl (by rw [hz2]; omega) (by unfold maxLen; omega) (Nat.le_refl _) ?_
  intro w1 ho1 hg1
  have e : (madeCells (Value.int .i64 0).cells (n * 1)).toList = (List.replicate n (0 : Int)).map (Value.int .i64) := by
    rw [show (Value.int .i64 0).cells = #[Value.int .i64 0] from rfl, Nat.mul_one, toList_madeCells_one]; simp
  rw [e] at ho1
  exact hK w1 (Own.of ho1) (grow_below hg1 (Nat.le_refl _) (by intro k hk; cases hk))

/-- 'out = append(out, x)' on a slice of the call's own. -/
theorem wpList_append1 {ops : Array Oper} {rest : List Oper} {o : Oper} {a : Act} {w : World} {Q : Exit → Act → World → Prop} (hgd : o.guard = none) (s x : Operand)
    (ho : o.op = .call { callee := .builtin .append, args := #[s, x], argTypes := #[22, 22] })
    (lo : Nat) (A : Option Addr) (n c : Nat) (xs : List Int) (v : Int) (hs : a.eval s = .slice A n c) (hx : a.eval x = .slice (some ⟨w.heap.size, 0, none⟩) 1 1)
    (hown : Own w lo w.heap.size A n c xs) (hlo : lo ≤ w.heap.size) (hn : n ≤ 1099511627776)
    (hK : ∀ A' c' w', Own w' lo w'.heap.size A' (n + 1) c' (xs ++ [v]) → w.grownBy w' (Value.slice A n c).ownBlock → Below lo w w' → wpList Try.prog ops Q rest (a.put o.dst (.slice A' (n + 1) c')) w') :
    wpList Try.prog ops Q (o :: rest) a (w.alloc (.cells #[.int .i64 v] 3)) := by
  obtain ⟨i0, hi, hz0, hz1, hz2⟩ := info_parts Try.infoInt
  refine wpList_append_own _ hgd s x 22 ho lo 3 i0 (.int .i64 0) 1 8 Try.underlying22 hi hz0 hz1 hz2 rfl (by decide) _ _ _ hs (hown.1.alloc _) ⟨w.heap.size, 0, none⟩ 1 1 [.int .i64 v] hx rfl ?_ ?_ (by unfold maxLen; omega) (by omega) (by simp; omega) ?_
  · intro j u hj
    match j, hj with
    | 0, hj =>
      simp at hj
      subst hj
      rw [add_pt]
      exact (Blk.new w 3 #[.int .i64 v]).cell 0
  · intro u hu
    simp at hu
    subst hu
    rfl
  · intro v' w1 ho1 hg1 _
    have e1 : List.map (Value.int .i64) xs ++ [Value.int .i64 v] = (xs ++ [v]).map (Value.int .i64) := by simp
    rw [e1] at ho1
    obtain ⟨g, cap, rfl, _, _⟩ := ho1.form (by omega)
    have hg2 : w.grownBy w1 (Value.slice A n c).ownBlock := (World.grownBy_alloc w _ _).trans hg1
    exact hK _ _ w1 (Own.of ho1) hg2 (grow_below hg2 hlo (fun k hk => (hown.1.lt k hk).1))

set_option maxRecDepth 100000 in
/-- 'append([]int{}, l...)' and the like: a whole slice appended to an empty one that was just made. -/
theorem wpList_append_all {ops : Array Oper} {rest : List Oper} {o : Oper} {a : Act} {w : World} {Q : Exit → Act → World → Prop} (hgd : o.guard = none) (s x : Operand)
    (ho : o.op = .call { callee := .builtin .append, args := #[s, x], argTypes := #[22, 22] })
    (lo : Nat) (A : Option Addr) (n c : Nat) (xs : List Int) (A2 : Option Addr) (m c2 : Nat) (ys : List Int) (hs : a.eval s = .slice A n c) (hx : a.eval x = .slice A2 m c2)
    (hown : Own w lo w.heap.size A n c xs) (hsi : SI w A2 m ys) (hlo : lo ≤ w.heap.size) (hn : n ≤ 1099511627776) (hm : m ≤ 1099511627776)
    (hK : ∀ A' c' w', Own w' lo w'.heap.size A' (n + m) c' (xs ++ ys) → w.grownBy w' (Value.slice A n c).ownBlock → Below lo w w' → wpList Try.prog ops Q rest (a.put o.dst (.slice A' (n + m) c')) w') :
    wpList Try.prog ops Q (o :: rest) a w := by
  obtain ⟨i0, hi, hz0, hz1, hz2⟩ := info_parts Try.infoInt
  by_cases h0 : 0 < m
  · obtain ⟨b, off, rfl, hb, hc⟩ := hsi.2 h0
    refine wpList_append_own _ hgd s x 22 ho lo 3 i0 (.int .i64 0) 1 8 Try.underlying22 hi hz0 hz1 hz2 rfl (by decide) _ _ _ hs hown.1 ⟨b, off, none⟩ m c2 (ys.map (Value.int .i64)) hx (by simp [hsi.1]) ?_ (ints_oneCell _ _) (by unfold maxLen; omega) (by omega) hlo ?_
    · intro j u hj
      have hjl : j < ys.length := by
        rcases Nat.lt_or_ge j ys.length with h | h
        · exact h
        · rw [List.getElem?_eq_none (by simpa using h)] at hj; cases hj
      rw [List.getElem?_map, nth_get? hjl] at hj
      rw [add_pt, hc j (by have := hsi.1; omega)]
      exact hj
    · intro v' w1 ho1 hg1 _
      rw [← List.map_append] at ho1
      obtain ⟨g, cap, rfl, _, _⟩ := ho1.form (by omega)
      exact hK _ _ w1 (Own.of ho1) hg1 (grow_below hg1 hlo (fun k hk => (hown.1.lt k hk).1))
  · have hm0 : m = 0 := by omega
    subst hm0
    have hy : ys = [] := List.eq_nil_of_length_eq_zero hsi.1
    subst hy
    have hk0 := hK A c w (by simpa using hown) (World.grownBy.refl _ _) (Below.refl _ _)
    refine wpList_plain hgd fun K hK' => ?_
    have hrun : (Builtin.append_ #[22, 22] o.type #[.slice A n c, .slice A2 0 c2]).run Try.prog w = .ok (.slice A n c) w := by
      have hg := hown.1
      have hl0 : ∀ v, (loadCells v 0).run Try.prog w = .ok #[] w := fun v => by simp [loadCells, loadCellsFrom]
      rcases hg.2 with ⟨e, h0⟩ | ⟨g, cap, cur, e, _, hgg, hnc, _⟩
      · injection e with e1 e2 e3
        subst e1; subst e3; subst h0
        cases A2 <;> simp [Builtin.append_, run_underlying Try.underlying22, sizeOf, typeInfo, hi, Builtin.lenOf, Builtin.firstCells, hl0]
      · injection e with e1 e2 e3
        subst e1; subst e3
        cases A2 <;> simp [Builtin.append_, run_underlying Try.underlying22, sizeOf, typeInfo, hi, Builtin.lenOf, Builtin.firstCells, hnc, storeCells, hl0]
    unfold Oper.wp
    simp [execOp, ho, resolve, invoke, builtin, hs, hx, hrun, Result.andThen]
    exact hK' _ _ (by simpa using hk0)
end Go.Proofs.Ythinbmjcdcmioaa

/-
  Opening a slice of integers that came in; closed facts of this dump. No conditions.
-/




namespace Go.Proofs.Ythinbmjcdcmioaa
open Go.ChangeShapes Go.WideShapes Go.ChangeAt Go.RowKit

theorem own : ownKnob Try.prog.godebug = none := by kernel_rfl
theorem laidOut : laidOutB Try.prog = true := by kernel_rfl

/-- What an opened slice of integers gives: it reads as its numbers. -/
theorem SI.of_cells {w : World} {a : Addr} {n : Nat} {zs : List Int} (hl : n ≤ zs.length) (hc : ∀ i, i < zs.length → w.cell? (a.add i) = some (.int .i64 (zs.getD i 0))) : SI w (some a) n (zs.take n) := by
  refine ⟨by simp; omega, fun hn => ?_⟩
  obtain ⟨b, o, s⟩ := a
  have h0 := hc 0 (by omega)
  have hs : s = none := by simpa [Addr.add] using World.cell?_spot h0
  subst hs
  refine ⟨b, o, rfl, block_lt_of_cell (a := ⟨b, o, none⟩) (by simpa [Addr.add] using h0), fun k hk => ?_⟩
  rw [nth_take hk, ← add_pt]
  exact hc k (by omega)

/-- Every number fits an int. -/
def Fits (xs : List Int) : Prop := ∀ x ∈ xs, -9223372036854775808 ≤ x ∧ x ≤ 9223372036854775807
theorem SI.of_trod {H : Type} {enc : TypeId × Value → H} {W : World} {q : Nat} {f : Nat → Bool} {a0 : Option Addr} {len0 cap0 : Nat} {d : DataW H} {p : List MemPlace}
    (h0 : DataW.Trod enc Try.prog W q f true 22 (.slice a0 len0 cap0) d p) : ∃ xs, SI W a0 len0 xs ∧ Fits xs := by
  obtain ⟨fuel, hf⟩ := h0
  rcases open_ints Try.underlying22 Try.underlying3 (by kernel_rfl) hf with ⟨hcs, _⟩ | ⟨x, l, c, zs, hcs, _, hl, hm, hz, _, hcell, hwz⟩
  · simp [Value.cells] at hcs
    obtain ⟨rfl, rfl, rfl⟩ := hcs
    exact ⟨[], SI.nil _ _, fun x hx => by cases hx⟩
  · simp [Value.cells] at hcs
    obtain ⟨rfl, rfl, rfl⟩ := hcs
    exact ⟨_, SI.of_cells (by rw [hz]; split <;> omega) hcell, fun n hn => bounds_i64 (hwz n (List.mem_of_mem_take hn))⟩
end Go.Proofs.Ythinbmjcdcmioaa

/-
  Copying a slice of numbers into an array. Conditions: the slice is no longer than the array.
-/


namespace Go.Proofs.Ythinbmjcdcmioaa
open Go.RowKit

/-- A list with zeros behind it. -/
def padN (N : Nat) (xs : List Int) : List Int := xs ++ List.replicate (N - xs.length) 0
theorem padN_len {N : Nat} {xs : List Int} (h : xs.length ≤ N) : (padN N xs).length = N := by simp [padN]; omega
theorem padN_nth (N : Nat) (xs : List Int) (k : Nat) : nth (padN N xs) k = nth xs k := by
  unfold padN nth
  rw [List.getD_eq_getElem?_getD, List.getD_eq_getElem?_getD]
  by_cases h : k < xs.length
  · rw [List.getElem?_append_left h]
  · rw [List.getElem?_append_right (by omega), List.getElem?_eq_none (l := xs) (by omega), List.getElem?_replicate]
    split <;> rfl
theorem nth_out {xs : List Int} {k : Nat} (h : xs.length ≤ k) : nth xs k = 0 := by
  unfold nth
  rw [List.getD_eq_getElem?_getD, List.getElem?_eq_none h]; rfl
theorem Try.infoIntA : (Try.prog.info? 3).map (·.size) = some 1 := by kernel_rfl
/-- 'copy(a[:], s)' where the array a holds zeros. -/
theorem wpList_copy_arr {ops : Array Oper} {rest : List Oper} {o : Oper} {a : Act} {w : World} {Q : Exit → Act → World → Prop} (hgd : o.guard = none) (d s : Operand)
    (ho : o.op = .call { callee := .builtin .copy, args := #[d, s], argTypes := #[22, 22] }) (g N : Nat) (A : Option Addr) (n c : Nat) (hd : a.eval d = .slice (some ⟨g, 0, none⟩) N N) (hs : a.eval s = .slice A n c)
    (t : TypeId) (xs : List Int) (hblk : Blk w g t ((List.replicate N (0 : Int)).map (Value.int .i64)).toArray) (hsi : SI w A n xs) (hle : n ≤ N)
    (hK : ∀ w', Blk w' g t ((padN N xs).map (Value.int .i64)).toArray → w.grownBy w' (some g) → wpList Try.prog ops Q rest (a.put o.dst (goInt n)) w') : wpList Try.prog ops Q (o :: rest) a w := by
  have hl := hsi.1
  by_cases h0 : n = 0
  · subst h0
    obtain rfl : xs = [] := List.eq_nil_of_length_eq_zero hl
    exact Go.wpList_copy_nothing hgd d s 22 22 ho 3 Try.underlying22 Try.infoIntA (some ⟨g, 0, none⟩) A N N 0 c hd hs (by simp) (hK w (by simpa [padN] using hblk) (World.grownBy.refl _ _))
  · obtain ⟨b, off, rfl, hb, hc⟩ := hsi.2 (by omega)
    have hE : (((List.replicate N (0 : Int)).map (Value.int .i64)).toArray.toList.take 0 ++ (xs.map (Value.int .i64) ++ ((List.replicate N (0 : Int)).map (Value.int .i64)).toArray.toList.drop (0 + (xs.map (Value.int .i64)).length))).toArray = ((padN N xs).map (Value.int .i64)).toArray := by
      simp [padN, List.drop_replicate]
    refine Go.wpList_copy_own hgd d s 22 22 ho 3 Try.underlying22 Try.infoIntA g 0 N N ⟨b, off, none⟩ n c hd hs _ t hblk (xs.map (Value.int .i64)) (by simp [hl]; exact (Nat.min_eq_left hle).symm) ?_ (by simp [hl]; omega) (ints_oneCell _ _) ?_
    · intro j v hj
      have hjl : j < xs.length := by
        rcases Nat.lt_or_ge j xs.length with h | h
        · exact h
        · rw [List.getElem?_eq_none (by simpa using h)] at hj; cases hj
      rw [List.getElem?_map, nth_get? hjl] at hj
      rw [add_pt, hc j (by omega)]
      exact hj
    · rw [hE]
      have hk := hK (w.setRow g ((padN N xs).map (Value.int .i64)).toArray) (hblk.row _) (grownBy_setRow w g _)
      simpa [hl] using hk
end Go.Proofs.Ythinbmjcdcmioaa

/-
  Contracts of the specification's functions that build lists: identity, longest. Conditions: lengths below 2^40.
-/


namespace Go.Proofs.Ythinbmjcdcmioaa
open Go.RowKit

def idL (n : Nat) : List Int := (List.range n).map fun (j : Nat) => (j : Int)
theorem idL_len (n : Nat) : (idL n).length = n := by simp [idL]
theorem idL_succ (n : Nat) : idL (n + 1) = idL n ++ [(n : Int)] := by simp [idL, List.range_succ]
/-- n-1, n-2, .., k numbers. -/
def downL (n k : Nat) : List Int := (List.range k).map fun (j : Nat) => (n : Int) - 1 - (j : Int)
theorem downL_len (n k : Nat) : (downL n k).length = k := by simp [downL]
theorem downL_succ (n k : Nat) : downL n (k + 1) = downL n k ++ [(n : Int) - 1 - (k : Int)] := by simp [downL, List.range_succ]

/-- What IdentityPerm answers. -/
def idPerm (a : Int) : List Int := if 1 ≤ a ∧ a ≤ 7 then idL a.toNat else []
theorem idPerm_small (a : Int) : (idPerm a).length ≤ 1099511627775 := by
  unfold idPerm; split
  · rw [idL_len]; omega
  · simp
def longPerm (a : Int) : List Int := if 1 ≤ a ∧ a ≤ 7 then downL a.toNat a.toNat else []
theorem longPerm_small (a : Int) : (longPerm a).length ≤ 1099511627775 := by
  unfold longPerm; split
  · rw [downL_len]; omega
  · simp
end Go.Proofs.Ythinbmjcdcmioaa

/-
  Contracts of the specification's functions: products, inverses. Conditions: lengths below 2^40.
-/

namespace Go.Proofs.Ythinbmjcdcmioaa
open Go.RowKit

/-- The first k numbers of a product. -/
def compL (u v : List Int) (k : Nat) : List Int := (List.range k).map fun i => nth u (nth v i).toNat
theorem compL_len (u v : List Int) (k : Nat) : (compL u v k).length = k := by simp [compL]
theorem compL_succ (u v : List Int) (k : Nat) : compL u v (k + 1) = compL u v k ++ [nth u (nth v k).toNat] := by simp [compL, List.range_succ]

/-- What ComposePerms answers. -/
def compPerm (us vs : List Int) : List Int := if isPermB us = true ∧ isPermB vs = true ∧ us.length = vs.length then compL us vs vs.length else []

theorem Fresh.nil_ret {w w' : World} (h : Below w.heap.size w w') : Fresh w w' (.returned (.slice none 0 0)) [] := ⟨none, 0, 0, rfl, Own.nil _ _ _, h⟩
theorem Fresh.after {w w1 w2 : World} {e : Ending} {ys : List Int} (hb : Below w.heap.size w w1) (h : Fresh w1 w2 e ys) : Fresh w w2 e ys := by
  obtain ⟨A, n, c, he, ho, hb2⟩ := h
  exact ⟨A, n, c, he, ho.wide hb.size (Nat.le_refl _), hb.trans (hb2.mono hb.size)⟩

theorem compPerm_no {us vs : List Int} (h : isPermB us = false ∨ isPermB vs = false ∨ us.length ≠ vs.length) : compPerm us vs = [] := by
  unfold compPerm
  rw [if_neg]
  rintro ⟨h1, h2, h3⟩
  rcases h with h | h | h
  · rw [h1] at h; cases h
  · rw [h2] at h; cases h
  · exact h h3
theorem compPerm_yes {us vs : List Int} (h1 : isPermB us = true) (h2 : isPermB vs = true) (h3 : us.length = vs.length) : compPerm us vs = compL us vs vs.length := by
  unfold compPerm
  rw [if_pos ⟨h1, h2, h3⟩]
theorem isPermB_small {xs : List Int} (h : isPermB xs = true) : xs.length ≤ 1099511627775 := by have := (isPermB_P h).2.1; omega
theorem compPerm_small (us vs : List Int) : (compPerm us vs).length ≤ 1099511627775 := by
  unfold compPerm
  split
  · rename_i h
    rw [compL_len]; exact isPermB_small h.2.1
  · simp
/-- The inverse, k places filled. -/
def invM (xs : List Int) (n k : Nat) : List Int := (List.range k).foldl (fun acc i => acc.set (nth xs i).toNat (i : Int)) (List.replicate n 0)
theorem invM_succ (xs : List Int) (n k : Nat) : invM xs n (k + 1) = (invM xs n k).set (nth xs k).toNat (k : Int) := by simp [invM, List.range_succ]
theorem invM_len (xs : List Int) (n k : Nat) : (invM xs n k).length = n := by
  induction k with
  | zero => simp [invM]
  | succ k ih => rw [invM_succ]; simpa using ih

/-- What InversePerm answers. -/
def invPerm (xs : List Int) : List Int := if isPermB xs = true then invM xs xs.length xs.length else []
theorem invPerm_no {xs : List Int} (h : isPermB xs = false) : invPerm xs = [] := by unfold invPerm; rw [if_neg (by rw [h]; decide)]
theorem invPerm_yes {xs : List Int} (h : isPermB xs = true) : invPerm xs = invM xs xs.length xs.length := by unfold invPerm; rw [if_pos h]
theorem invPerm_small (xs : List Int) : (invPerm xs).length ≤ 1099511627775 := by
  unfold invPerm
  split
  · rename_i h
    rw [invM_len]; exact isPermB_small h
  · simp
end Go.Proofs.Ythinbmjcdcmioaa

/-
  The program's own test for permutations, as arrays: contracts. Conditions: the length is at most 2^40.
-/

namespace Go.Proofs.Ythinbmjcdcmioaa
open Go.RowKit

/-- An array of integers as a value. -/
abbrev arrC (l : List Int) : Array Value := #[.int .i64 (nth l 0), .int .i64 (nth l 1), .int .i64 (nth l 2), .int .i64 (nth l 3), .int .i64 (nth l 4), .int .i64 (nth l 5), .int .i64 (nth l 6)]
abbrev arr (l : List Int) : Value := .agg (arrC l)

theorem isPermSize_any (a : Int) (w : World) :
    Calls Try.prog 107 #[.int .i64 a] w fun e w' => e = .returned (.bool (decide (1 ≤ a) && decide (a ≤ 7))) ∧ w = w' := by
  by_cases h1 : 1 ≤ a
  · by_cases h2 : a ≤ 7
    · go_enter Try.func107, Try.ntmps107
      go_wp2
      go_ret
      exact ⟨ret_bool (by simp [h1, h2]), rfl⟩
    · go_enter Try.func107, Try.ntmps107
      go_wp2
      go_ret
      exact ⟨ret_bool (by simp [h2]), rfl⟩
  · have h1' : a < 1 := by omega
    go_enter Try.func107, Try.ntmps107
    go_wp2
    go_ret
    exact ⟨ret_bool (by simp; intro; omega), rfl⟩
theorem isPermSize_yes {a : Int} (h : 1 ≤ a) (h' : a ≤ 7) (w : World) :
    Calls Try.prog 107 #[.int .i64 a] w fun e w' => e = .returned (.bool true) ∧ w = w' := by
  have := isPermSize_any a w
  simpa [h, h'] using this
theorem isPermSize_no {a : Int} (h : a < 1 ∨ 7 < a) (w : World) :
    Calls Try.prog 107 #[.int .i64 a] w fun e w' => e = .returned (.bool false) ∧ w = w' := by
  have e : (decide (1 ≤ a) && decide (a ≤ 7)) = false := by simp; omega
  have := isPermSize_any a w
  rwa [e] at this

set_option maxHeartbeats 1000000 in
theorem identityArray_any (w : World) :
    Calls Try.prog 108 #[] w fun e w' => e = .returned (.agg #[.int .i64 0, .int .i64 1, .int .i64 2, .int .i64 3, .int .i64 4, .int .i64 5, .int .i64 6]) ∧ Below w.heap.size w w' := by
  go_enter Try.func108, Try.ntmps108
  go_wp2
  go_rounds 8
  go_returns
  exact ⟨rfl, by go_grown⟩

/-- The array of a permutation, k places filled: behind them each number stands at its place. -/
def fillA (xs : List Int) (k : Nat) : List Int := (List.range 7).map fun (j : Nat) => if j < k then nth xs j else (j : Int)
theorem fillA_len (xs : List Int) (k : Nat) : (fillA xs k).length = 7 := by simp [fillA]
theorem fillA_nth (xs : List Int) (k j : Nat) (hj : j < 7) : nth (fillA xs k) j = if j < k then nth xs j else (j : Int) := by
  rw [nth_get (by rw [fillA_len]; exact hj)]
  simp [fillA]
/-- Which numbers are among the first k. -/
def seenC (xs : List Int) (k : Nat) : Array Value := ((List.range 7).map fun (v : Nat) => Value.bool (hasB (xs.take k) (v : Int))).toArray
theorem lt7 {k : Nat} (h : k < 7) : k = 0 ∨ k = 1 ∨ k = 2 ∨ k = 3 ∨ k = 4 ∨ k = 5 ∨ k = 6 := by omega
theorem arrC_get (l : List Int) (k : Nat) (h : k < 7) : (arrC l)[k]? = some (.int .i64 (nth l k)) := by
  rcases lt7 h with rfl | rfl | rfl | rfl | rfl | rfl | rfl <;> rfl
theorem arrC_set (l : List Int) (k : Nat) (h : k < 7) (x : Int) (hl : l.length = 7) : (arrC l).setIfInBounds k (.int .i64 x) = arrC (l.set k x) := by
  match l, hl with
  | [a, b, c, d, e, f, g], _ =>
    rcases lt7 h with rfl | rfl | rfl | rfl | rfl | rfl | rfl <;> rfl
theorem arrC_fill (xs : List Int) (k : Nat) (h : k < 7) : (arrC (fillA xs k)).setIfInBounds k (.int .i64 (nth xs k)) = arrC (fillA xs (k + 1)) := by
  rw [arrC_set _ k h _ (fillA_len _ _)]
  congr 1
  apply List.ext_getElem (by simp [fillA])
  intro j h1 h2
  rw [List.getElem_set]
  simp only [fillA, List.getElem_map, List.getElem_range]
  by_cases e : k = j
  · subst e; simp
  · rw [if_neg e]
    by_cases h3 : j < k
    · rw [if_pos h3, if_pos (by omega)]
    · rw [if_neg h3, if_neg (by omega)]
theorem seenC_zero (xs : List Int) : seenC xs 0 = #[.bool false, .bool false, .bool false, .bool false, .bool false, .bool false, .bool false] := by
  simp [seenC, hasB, List.range_succ]
theorem seenC_get (xs : List Int) (k : Nat) (x : Int) (h0 : 0 ≤ x) (h7 : x < 7) : (seenC xs k)[x.toNat]? = some (.bool (hasB (xs.take k) x)) := by
  have e : ((x.toNat : Nat) : Int) = x := by omega
  simp only [seenC, List.getElem?_toArray, List.getElem?_map]
  rw [List.getElem?_range (by omega)]
  simp [e]
theorem seenC_set (xs : List Int) (k : Nat) (hk : k < xs.length) (h0 : 0 ≤ nth xs k) : (seenC xs k).setIfInBounds (nth xs k).toNat (.bool true) = seenC xs (k + 1) := by
  apply Array.ext_getElem?
  intro j
  rw [Array.getElem?_setIfInBounds]
  by_cases e : (nth xs k).toNat = j
  · rw [if_pos e]
    by_cases hj : j < 7
    · rw [if_pos (by simp [seenC]; omega)]
      simp only [seenC, List.getElem?_toArray, List.getElem?_map]
      rw [List.getElem?_range hj, take_nth hk]
      have : ((j : Nat) : Int) = nth xs k := by omega
      simp [hasB, this]
    · rw [if_neg (by simp [seenC]; omega)]
      symm
      apply Array.getElem?_eq_none
      simp [seenC]; omega
  · rw [if_neg e]
    by_cases hj : j < 7
    · simp only [seenC, List.getElem?_toArray, List.getElem?_map]
      rw [List.getElem?_range hj, take_nth hk]
      have : ¬ ((j : Nat) : Int) = nth xs k := by omega
      simp [hasB, this]
    · rw [Array.getElem?_eq_none (by simp [seenC]; omega), Array.getElem?_eq_none (by simp [seenC]; omega)]

abbrev zeroC : Array Value := #[.int .i64 0, .int .i64 0, .int .i64 0, .int .i64 0, .int .i64 0, .int .i64 0, .int .i64 0]

theorem Try.infoArr : (Try.prog.info? 93).map (·.size) = some 7 := by kernel_rfl
theorem Try.undArr : Try.prog.underlying 93 = some (.array 7 3) := Try.underlying93
theorem zeroC_one : zeroC.all (·.oneCell') = true := by simp [Value.oneCell']
theorem arrC_one (l : List Int) : (arrC l).all (·.oneCell') = true := by simp [Value.oneCell']
set_option maxHeartbeats 2000000 in
theorem arrayOf_any (A : Option Addr) (n c : Nat) (xs : List Int) (w : World) (hs : SI w A n xs) (hn : n ≤ 1099511627776) :
    Calls Try.prog 96 #[.slice A n c] w fun e w' => (isPermB xs = true ∧ e = .returned (.tuple #[arr (fillA xs n), .bool true]) ∨ isPermB xs = false ∧ e = .returned (.tuple #[.agg zeroC, .bool false])) ∧ Below w.heap.size w w' := by
  have hl := hs.1
  by_cases hsz : 1 ≤ n ∧ n ≤ 7
  · obtain ⟨hs1, hs7⟩ := hsz
    go_enter Try.func96, Try.ntmps96
    go_wp2_with (first | (go_at_call 107; refine (isPermSize_yes (by omega) (by omega) _).mono ?_; rintro e w1 ⟨rfl, rfl⟩) | (go_at_call 108; refine (identityArray_any _).mono ?_; rintro e w2 ⟨rfl, hb2⟩))
    have hbR : Blk w2 w.heap.size 93 zeroC := ((Blk.new w 93 zeroC).below hb2 (by simp))
    have hbw : Below w.heap.size w w2 := ((Below.refl _ _).alloc (Nat.le_refl _) _).trans (hb2.mono (by simp))
    have hb0 := Blk.new w2 93 (arrC (fillA xs 0))
    have hb1 := Blk.new (w2.alloc (.cells #[.int .i64 0, .int .i64 1, .int .i64 2, .int .i64 3, .int .i64 4, .int .i64 5, .int .i64 6] 93)) 101 (seenC xs 0)
    rw [show (w2.alloc (.cells #[.int .i64 0, .int .i64 1, .int .i64 2, .int .i64 3, .int .i64 4, .int .i64 5, .int .i64 6] 93)).heap.size = w2.heap.size + 1 from by simp, seenC_zero] at hb1
    have HW2 : Hid (w.heap.size + 1 ≤ w2.heap.size) := Lib.hid (by have := hb2.size; simpa using this)
    clear hb2
    go_loopw [16] (fun i wr => ∃ k : Nat, k ≤ n ∧ i = .int .i64 k ∧ Blk wr w.heap.size 93 zeroC ∧ Blk wr w2.heap.size 93 (arrC (fillA xs k)) ∧ Blk wr (w2.heap.size + 1) 101 (seenC xs k) ∧ Below w.heap.size w wr ∧ ∀ j, j < k → goodAt xs j)
      (fun i _ => n - (intOf i).toNat)
    case atStart =>
      refine ⟨0, Nat.zero_le _, rfl, (hbR.alloc _).alloc _, ?_, ?_, ?_, fun j hj => absurd hj (by omega)⟩
      · exact hb0.alloc _
      · rw [seenC_zero]; exact hb1
      · exact (hbw.alloc hbw.size _).alloc (by have := hbw.size; simp; omega) _
    case round =>
      obtain ⟨k, hk, rfl, hR, hG, hS, hB, hall⟩ := hrel
      have HA := Lib.hid hall
      have HL := Lib.hid hl
      have HB := Lib.hid hB
      have HR := Lib.hid hR
      have HG := Lib.hid hG
      have HS := Lib.hid hS
      clear hall hl hB hR hbw hb0 hb1 hbR hG hS
      by_cases hlt : k < n
      · obtain ⟨b, o, e1, hb, hc⟩ := hs.at_ (by omega)
        have hc1 : wr.cell? ⟨b, o + k, none⟩ = some (.int .i64 (nth xs k)) := (HB.out.cell (p := ⟨b, o + k, none⟩) hb).trans (hc k hlt)
        subst e1
        obtain ⟨x, hx⟩ : ∃ x, x = nth xs k := ⟨_, rfl⟩
        rw [← hx] at hc1
        have HX := Lib.hid hx
        clear hc hs hx
        by_cases hx0 : x < 0
        · have hf : isPermB xs = false := by
            refine isPermB_false fun hp => ?_
            obtain ⟨g1, _, _⟩ := (hp.2.2 k (by have := HL.out; omega))
            rw [← HX.out] at g1; omega
          have HF := Lib.hid hf
          clear hf
          go_wp2_with (refine wpList_store_blk rfl 93 (.tmp 2) (.tmp 34) rfl w.heap.size zeroC rfl rfl 93 zeroC HR.out Try.infoArr rfl zeroC_one ?_; intro w3 hR3 hg3)
          refine bodyPost_ret (results_blk_tmp Try.results96 _ _ _ _ _ 7 3 rfl hR3 Try.undArr Try.infoArr) rfl ?_
          exact ⟨.inr ⟨HF.out, rfl⟩, HB.out.grown hg3 HB.out.size (by rintro _ ⟨⟩; exact Nat.le_refl _)⟩
        · by_cases hxn : (n : Int) ≤ x
          · have hf : isPermB xs = false := by
              refine isPermB_false fun hp => ?_
              obtain ⟨_, g1, _⟩ := (hp.2.2 k (by have := HL.out; omega))
              rw [← HX.out, HL.out] at g1; omega
            have HF := Lib.hid hf
            clear hf
            go_wp2_with (refine wpList_store_blk rfl 93 (.tmp 2) (.tmp 34) rfl w.heap.size zeroC rfl rfl 93 zeroC HR.out Try.infoArr rfl zeroC_one ?_; intro w3 hR3 hg3)
            refine bodyPost_ret (results_blk_tmp Try.results96 _ _ _ _ _ 7 3 rfl hR3 Try.undArr Try.infoArr) rfl ?_
            exact ⟨.inr ⟨HF.out, rfl⟩, HB.out.grown hg3 HB.out.size (by rintro _ ⟨⟩; exact Nat.le_refl _)⟩
          · have hx0' : 0 ≤ x := by omega
            have hx7 : x < 7 := by omega
            have hcS : wr.cell? ⟨w2.heap.size + 1, x.toNat, none⟩ = some (.bool (hasB (xs.take k) x)) := (HS.out.cell _).trans (seenC_get xs k x hx0' hx7)
            have hfS := HS.out.frozen x.toNat
            cases hh : hasB (xs.take k) x with
            | true =>
              rw [hh] at hcS
              have hf : isPermB xs = false := by
                refine isPermB_false fun hp => ?_
                obtain ⟨_, _, g3⟩ := (hp.2.2 k (by have := HL.out; omega))
                rw [← HX.out, hh] at g3; cases g3
              have HF := Lib.hid hf
              clear hf hh
              go_wp2_with (refine wpList_store_blk rfl 93 (.tmp 2) (.tmp 34) rfl w.heap.size zeroC rfl rfl 93 zeroC HR.out Try.infoArr rfl zeroC_one ?_; intro w3 hR3 hg3)
              refine bodyPost_ret (results_blk_tmp Try.results96 _ _ _ _ _ 7 3 rfl hR3 Try.undArr Try.infoArr) rfl ?_
              exact ⟨.inr ⟨HF.out, rfl⟩, HB.out.grown hg3 HB.out.size (by rintro _ ⟨⟩; exact Nat.le_refl _)⟩
            | false =>
              rw [hh] at hcS
              have HGd : Hid (goodAt xs k) := Lib.hid (by
                have e1 := HX.out
                have e3 := HL.out
                exact ⟨by omega, by omega, by rw [← e1]; exact hh⟩)
              clear hh
              have hS' := (HS.out.set_ x.toNat (.bool true))
              have hG' := ((HG.out.far (p := ⟨w2.heap.size + 1, x.toNat, none⟩) (by show w2.heap.size ≠ w2.heap.size + 1; omega) (.bool true)).set_ k (.int .i64 x))
              have hR' := ((HR.out.far (p := ⟨w2.heap.size + 1, x.toNat, none⟩) (by have := HW2.out; show w.heap.size ≠ w2.heap.size + 1; omega) (.bool true)).far (p := ⟨w2.heap.size, k, none⟩) (by have := HW2.out; show w.heap.size ≠ w2.heap.size; omega) (.int .i64 x))
              have HS2 := Lib.hid (hS'.far (p := ⟨w2.heap.size, k, none⟩) (by show w2.heap.size + 1 ≠ w2.heap.size; omega) (.int .i64 x))
              have HG2 := Lib.hid hG'
              have HR2 := Lib.hid hR'
              have HB2 := Lib.hid ((HB.out.setCell (p := ⟨w2.heap.size + 1, x.toNat, none⟩) (by have := HW2.out; show w.heap.size ≤ w2.heap.size + 1; omega) (.bool true)).setCell (p := ⟨w2.heap.size, k, none⟩) (by have := HW2.out; show w.heap.size ≤ w2.heap.size; omega) (.int .i64 x))
              have hcG : wr.cell? ⟨w2.heap.size, k, none⟩ = some (.int .i64 (nth (fillA xs k) k)) := (HG.out.cell _).trans (arrC_get _ k (by omega))
              have hfG := HG.out.frozen k
              clear hS' hG' hR'
              go_wp2
              go_roundw
              case rel =>
                have e1 := HX.out
                have e3 := HL.out
                refine ⟨k + 1, by omega, by go_num, HR2.out, ?_, ?_, HB2.out, fun j hj => ?_⟩
                · have := HG2.out
                  rw [e1, arrC_fill xs k (by omega), ← e1] at this
                  exact this
                · have := HS2.out
                  rw [e1, seenC_set xs k (by omega) (by omega), ← e1] at this
                  exact this
                · rcases Nat.lt_or_ge j k with h | h
                  · exact HA.out j h
                  · obtain rfl : j = k := by omega
                    exact HGd.out
              case measure => simp [intOf]; omega
      · have hkn : k = n := by omega
        subst hkn
        have hp : isPermB xs = true := isPermB_true ⟨by have := HL.out; omega, by have := HL.out; omega, by rw [HL.out]; exact HA.out⟩
        have HP := Lib.hid hp
        clear hp
        go_wp2_with (first | (refine wpList_load_blk rfl 93 (.tmp 4) rfl w2.heap.size rfl 93 (arrC (fillA xs k)) 7 3 HG.out Try.undArr Try.infoArr ?_) | (refine wpList_store_blk rfl 93 (.tmp 2) (.tmp 41) rfl w.heap.size (arrC (fillA xs k)) rfl rfl 93 zeroC HR.out Try.infoArr rfl (arrC_one _) ?_; intro w3 hR3 hg3))
        refine bodyPost_ret (results_blk_tmp Try.results96 _ _ _ _ _ 7 3 rfl hR3 Try.undArr Try.infoArr) rfl ?_
        exact ⟨.inl ⟨HP.out, rfl⟩, HB.out.grown hg3 HB.out.size (by rintro _ ⟨⟩; exact Nat.le_refl _)⟩
  · go_enter Try.func96, Try.ntmps96
    go_wp2_with (go_at_call 107; refine (isPermSize_no (by omega) _).mono ?_; rintro e w1 ⟨rfl, rfl⟩)
    go_returns
    refine ⟨.inr ⟨isPermB_false (fun hp => hsz ⟨by have := hp.1; omega, by have := hp.2.1; omega⟩), rfl⟩, by go_grown⟩

theorem arrayOf_yes {A : Option Addr} {n : Nat} (c : Nat) {xs : List Int} {w : World} (hs : SI w A n xs) (hn : n ≤ 1099511627776) (hp : isPermB xs = true) :
    Calls Try.prog 96 #[.slice A n c] w fun e w' => e = .returned (.tuple #[arr (fillA xs n), .bool true]) ∧ Below w.heap.size w w' := by
  refine (arrayOf_any A n c xs w hs hn).mono fun e w' ⟨he, hb⟩ => ⟨?_, hb⟩
  rcases he with ⟨_, he⟩ | ⟨h, _⟩
  · exact he
  · rw [hp] at h; cases h
theorem arrayOf_no {A : Option Addr} {n : Nat} (c : Nat) {xs : List Int} {w : World} (hs : SI w A n xs) (hn : n ≤ 1099511627776) (hp : isPermB xs = false) :
    Calls Try.prog 96 #[.slice A n c] w fun e w' => e = .returned (.tuple #[.agg zeroC, .bool false]) ∧ Below w.heap.size w w' := by
  refine (arrayOf_any A n c xs w hs hn).mono fun e w' ⟨he, hb⟩ => ⟨?_, hb⟩
  rcases he with ⟨h, _⟩ | ⟨_, he⟩
  · rw [hp] at h; cases h
  · exact he

set_option maxHeartbeats 1000000 in
theorem implIsPerm_any (A : Option Addr) (n c : Nat) (xs : List Int) (w : World) (hs : SI w A n xs) (hn : n ≤ 1099511627776) :
    Calls Try.prog 89 #[.slice A n c] w fun e w' => e = .returned (.bool (isPermB xs)) ∧ Below w.heap.size w w' := by
  cases hp : isPermB xs with
  | true =>
    have HP := Lib.hid hp
    clear hp
    go_enter Try.func89, Try.ntmps89
    go_wp2_with (go_at_call 96; refine (arrayOf_yes c hs hn HP.out).mono ?_; rintro e w1 ⟨rfl, hb1⟩)
    go_ret
    exact ⟨rfl, hb1.alloc hb1.size _⟩
  | false =>
    have HP := Lib.hid hp
    clear hp
    go_enter Try.func89, Try.ntmps89
    go_wp2_with (go_at_call 96; refine (arrayOf_no c hs hn HP.out).mono ?_; rintro e w1 ⟨rfl, hb1⟩)
    go_ret
    exact ⟨rfl, hb1.alloc hb1.size _⟩
end Go.Proofs.Ythinbmjcdcmioaa

/-
  Contracts of the program's functions: copies of arrays, identity, longest, products, inverses. Conditions: lengths below 2^40.
-/




namespace Go.Proofs.Ythinbmjcdcmioaa
open Go.RowKit

set_option maxHeartbeats 400000 in
theorem clone_any (A : Option Addr) (n c : Nat) (xs : List Int) (w : World) (hs : SI w A n xs) (hA : A = none → n = 0 ∧ c = 0) (hn : n ≤ 1099511627776) :
    Calls Try.prog 98 #[.slice A n c] w fun e w' => Fresh w w' e xs := by
  have hl := hs.1
  cases A with
  | none =>
    obtain ⟨rfl, rfl⟩ := hA rfl
    have hx : xs = [] := List.eq_nil_of_length_eq_zero hl
    subst hx
    have hnil := fun wx => Lib.run_eql_slice_nil (P := Try.prog) wx 22 3 none 0 0 0 0 Try.underlying22
    go_enter Try.func98, Try.ntmps98
    go_wp2
    go_ret
    exact Fresh.nil_ret (Below.refl _ _)
  | some a =>
    have hnil := fun wx => Lib.run_eql_slice_nil (P := Try.prog) wx 22 3 (some a) n c 0 0 Try.underlying22
    have HL := Lib.hid hl
    clear hl
    go_enter Try.func98, Try.ntmps98
    go_wp2_with (at_builtin; refine wpList_append_all rfl (.tmp 5) (.tmp 6) rfl w.heap.size (some ⟨w.heap.size, 0, none⟩) 0 0 [] (some a) n c xs rfl rfl ((Own.empty w).wide (Nat.le_refl _) (by simp)) (hs.alloc _) (by simp) (by omega) hn ?_; intro A' c' w1 ho1 _ hb1)
    go_ret
    have e := HL.out
    subst e
    exact ⟨A', _, c', rfl, by simpa using ho1, (Below.alloc_self _ _).trans hb1⟩

/-- A slice of an array that lies in a block. -/
theorem SI.of_arr {w : World} {g t n : Nat} {l : List Int} (h : Blk w g t (arrC l)) (hn : n ≤ 7) (hl : l.length = 7) : SI w (some ⟨g, 0, none⟩) n (l.take n) := by
  refine ⟨by simp; omega, fun _ => ⟨g, 0, rfl, h.lt, fun k hk => ?_⟩⟩
  rw [nth_take hk, Nat.zero_add, h.cell, arrC_get l k (by omega)]

theorem Try.arrLen : Try.prog.arrayLen 93 = 7 := by kernel_rfl
theorem Try.arrElem : Try.prog.elem 93 = 3 := by kernel_rfl
theorem sliceArr_to (a : Addr) (n : Nat) (hn : n ≤ 7) (w : World) : (Instr.sliceAt 93 (.pointer (some a)) none (some (.int .i64 n)) none).run Try.prog w = .ok (.slice (some a) n 7) w := by
  obtain ⟨i0, hi, hz0, hz1, hz2⟩ := info_parts Try.infoInt
  have h := run_sliceAt_array_h (P := Try.prog) w 93 a (by rw [Try.arrLen, Try.arrElem]; exact Try.undArr) .i64 (n : Int) (by omega) (by rw [Try.arrLen]; omega)
  rw [h, Try.arrLen, Try.arrElem]
  simp [sizeOf, typeInfo, hi, slicedAt, Addr.add]
theorem sliceArr_from (a : Addr) (n : Nat) (hn : n ≤ 7) (w : World) : (Instr.sliceAt 93 (.pointer (some a)) (some (.int .i64 n)) none none).run Try.prog w = .ok (.slice (some (if 7 = n then a else a.add n)) (7 - n) (7 - n)) w := by
  obtain ⟨i0, hi, hz0, hz1, hz2⟩ := info_parts Try.infoInt
  have h := run_sliceAt_array_l (P := Try.prog) w 93 a (by rw [Try.arrLen, Try.arrElem]; exact Try.undArr) .i64 (n : Int) (by omega) (by rw [Try.arrLen]; omega)
  rw [h, Try.arrLen, Try.arrElem]
  simp [sizeOf, typeInfo, hi, slicedAt, hz1]

set_option maxHeartbeats 400000 in
theorem list_any (l : List Int) (n : Nat) (w : World) (hl : l.length = 7) (hn : n ≤ 7) :
    Calls Try.prog 105 #[arr l, .int .i64 n] w fun e w' => Fresh w w' e (l.take n) := by
  have HL := Lib.hid hl
  clear hl
  have hsl := fun wx => sliceArr_to ⟨w.heap.size, 0, none⟩ n hn wx
  go_enter Try.func105, Try.ntmps105
  go_wp2_with fail
  refine (clone_any _ _ _ _ _ (SI.of_arr (Blk.new w 93 (arrC l)) hn HL.out) (by intro h; cases h) (by omega)).mono ?_
  rintro e w1 ⟨A1, n1, c1, rfl, ho1, hb1⟩
  go_wp2
  go_ret
  exact Fresh.after (Below.alloc_self _ _) ⟨A1, n1, c1, rfl, ho1, hb1⟩

end Go.Proofs.Ythinbmjcdcmioaa

/-
  The lengths of rows as an array of sixteen numbers, and back. Conditions: lengths below 2^40.
-/



namespace Go.Proofs.Ythinbmjcdcmioaa
open Go.RowKit

abbrev arrD (l : List Int) : Array Value := #[.int .i64 (nth l 0), .int .i64 (nth l 1), .int .i64 (nth l 2), .int .i64 (nth l 3), .int .i64 (nth l 4), .int .i64 (nth l 5), .int .i64 (nth l 6), .int .i64 (nth l 7), .int .i64 (nth l 8), .int .i64 (nth l 9), .int .i64 (nth l 10), .int .i64 (nth l 11), .int .i64 (nth l 12), .int .i64 (nth l 13), .int .i64 (nth l 14), .int .i64 (nth l 15)]
abbrev arr16 (l : List Int) : Value := .agg (arrD l)
theorem lt16 {k : Nat} (h : k < 16) : k = 0 ∨ k = 1 ∨ k = 2 ∨ k = 3 ∨ k = 4 ∨ k = 5 ∨ k = 6 ∨ k = 7 ∨ k = 8 ∨ k = 9 ∨ k = 10 ∨ k = 11 ∨ k = 12 ∨ k = 13 ∨ k = 14 ∨ k = 15 := by omega
theorem arrD_get (l : List Int) (k : Nat) (h : k < 16) : (arrD l)[k]? = some (.int .i64 (nth l k)) := by
  rcases lt16 h with rfl | rfl | rfl | rfl | rfl | rfl | rfl | rfl | rfl | rfl | rfl | rfl | rfl | rfl | rfl | rfl <;> rfl
theorem arrD_of {l : List Int} (h : l.length = 16) : (l.map (Value.int .i64)).toArray = arrD l := by
  apply Array.ext_getElem?
  intro k
  by_cases hk : k < 16
  · rw [arrD_get l k hk]
    simp only [List.getElem?_toArray, List.getElem?_map]
    rw [nth_get? (by omega)]; rfl
  · rw [Array.getElem?_eq_none (by simp [h]; omega), Array.getElem?_eq_none (by simp; omega)]
theorem arrD_set (l : List Int) (k : Nat) (_ : k < 16) (x : Int) (hl : l.length = 16) : (arrD l).setIfInBounds k (.int .i64 x) = arrD (l.set k x) := by
  rw [← arrD_of hl, ← arrD_of (l := l.set k x) (by simpa using hl)]
  simp [List.map_set]
theorem arrD_one (l : List Int) : (arrD l).all (·.oneCell') = true := by simp [Value.oneCell']
theorem Try.infoRows : (Try.prog.info? 61).map (·.size) = some 16 := by kernel_rfl
theorem Try.undRows : Try.prog.underlying 61 = some (.array 16 3) := Try.underlying61
theorem Try.lenRows : Try.prog.arrayLen 61 = 16 := by kernel_rfl
theorem Try.elemRows : Try.prog.elem 61 = 3 := by kernel_rfl
theorem SI.of_rows {w : World} {g t n : Nat} {l : List Int} (h : Blk w g t (arrD l)) (hn : n ≤ 16) (hl : l.length = 16) : SI w (some ⟨g, 0, none⟩) n (l.take n) := by
  refine ⟨by simp; omega, fun _ => ⟨g, 0, rfl, h.lt, fun k hk => ?_⟩⟩
  rw [nth_take hk, Nat.zero_add, h.cell, arrD_get l k (by omega)]
theorem sliceRows_to (a : Addr) (n : Nat) (hn : n ≤ 16) (w : World) : (Instr.sliceAt 61 (.pointer (some a)) none (some (.int .i64 n)) none).run Try.prog w = .ok (.slice (some a) n 16) w := by
  obtain ⟨i0, hi, hz0, hz1, hz2⟩ := info_parts Try.infoInt
  have h := run_sliceAt_array_h (P := Try.prog) w 61 a (by rw [Try.lenRows, Try.elemRows]; exact Try.undRows) .i64 (n : Int) (by omega) (by rw [Try.lenRows]; omega)
  rw [h, Try.lenRows, Try.elemRows]
  simp [sizeOf, typeInfo, hi, slicedAt, Addr.add]
abbrev zero16 : Array Value := #[.int .i64 0, .int .i64 0, .int .i64 0, .int .i64 0, .int .i64 0, .int .i64 0, .int .i64 0, .int .i64 0, .int .i64 0, .int .i64 0, .int .i64 0, .int .i64 0, .int .i64 0, .int .i64 0, .int .i64 0, .int .i64 0]
set_option maxRecDepth 100000 in
set_option maxHeartbeats 800000 in
theorem rowLengthsOf_any (A : Option Addr) (n c : Nat) (xs : List Int) (w : World) (hs : SI w A n xs) (hn : n ≤ 16) :
    Calls Try.prog 58 #[.slice A n c] w fun e w' => e = .returned (arr16 (padN 16 xs)) ∧ Below w.heap.size w w' := by
  have HL := Lib.hid hs.1
  have HS := Lib.hid hs
  clear hs
  obtain ⟨t, ht⟩ : ∃ t, t = 61 := ⟨_, rfl⟩
  have hz : zero16 = ((List.replicate 16 (0 : Int)).map (Value.int .i64)).toArray := rfl
  have hz0 : Blk ((w.alloc (.cells zero16 61)).alloc (.cells zero16 61)) (w.heap.size + 1) 61 ((List.replicate 16 (0 : Int)).map (Value.int .i64)).toArray := by
    rw [← hz]
    have := Blk.new (w.alloc (.cells zero16 61)) 61 zero16
    rwa [show (w.alloc (.cells zero16 61)).heap.size = w.heap.size + 1 from by simp] at this
  have hz1 : Blk ((w.alloc (.cells zero16 61)).alloc (.cells zero16 61)) w.heap.size 61 zero16 := (Blk.new w 61 zero16).alloc _
  have hz2 : Below w.heap.size w ((w.alloc (.cells zero16 61)).alloc (.cells zero16 61)) := ((Below.refl _ _).alloc (Nat.le_refl _) _).alloc (by simp) _
  have hz3 : SI ((w.alloc (.cells zero16 61)).alloc (.cells zero16 61)) A n xs := (HS.out.alloc _).alloc _
  have HZ0 := Lib.hid hz0
  have HZ1 := Lib.hid hz1
  have HZ2 := Lib.hid hz2
  have HZ3 := Lib.hid hz3
  clear hz0 hz1 hz2 hz3 hz ht t
  go_enter Try.func58, Try.ntmps58
  go_wp2_with (first
    | (skip
       refine wpList_copy_arr rfl (.tmp 4) (.tmp 5) rfl (w.heap.size + 1) 16 A n c rfl rfl 61 xs HZ0.out HZ3.out hn ?_
       intro w4 hb4 hg4
       rw [arrD_of (padN_len (by rw [HL.out]; exact hn))] at hb4
       have HB4 := Lib.hid hb4
       have HA4 : Hid (Blk w4 w.heap.size 61 zero16) := Lib.hid (HZ1.out.grown hg4 (by intro e; injection e with e; omega))
       have HW4 : Hid (Below w.heap.size w w4) := Lib.hid (HZ2.out.grown hg4 HZ2.out.size (by rintro q ⟨⟩; omega))
       clear hb4 hg4)
    | (refine wpList_load_blk rfl 61 (.tmp 3) rfl (w.heap.size + 1) rfl 61 (arrD (padN 16 xs)) 16 3 HB4.out Try.undRows Try.infoRows ?_)
    | (refine wpList_store_blk rfl 61 (.tmp 2) (.tmp 7) rfl w.heap.size (arrD (padN 16 xs)) rfl rfl 61 zero16 HA4.out Try.infoRows rfl (arrD_one _) ?_; intro w5 hb5 hg5)
    | fail)
  refine bodyPost_ret (results_blk Try.results58 _ _ _ _ _ 16 3 rfl hb5 Try.undRows Try.infoRows) rfl ?_
  exact ⟨rfl, HW4.out.grown hg5 HW4.out.size (by rintro q ⟨⟩; exact Nat.le_refl _)⟩
end Go.Proofs.Ythinbmjcdcmioaa

/-
  Shapes that contain each other, on both sides. Conditions: lengths below 2^40.
-/


namespace Go.Proofs.Ythinbmjcdcmioaa
open Go.RowKit

def inP (xs ys : List Int) : Prop := ys.length ≤ xs.length ∧ ∀ k, k < ys.length → nth ys k ≤ nth xs k
def inB (xs ys : List Int) : Bool := decide (ys.length ≤ xs.length) && (List.range ys.length).all fun k => decide (nth ys k ≤ nth xs k)
theorem inB_iff (xs ys : List Int) : inB xs ys = true ↔ inP xs ys := by simp [inB, inP]
theorem inB_true {xs ys : List Int} (h : inP xs ys) : inB xs ys = true := (inB_iff _ _).2 h
theorem inB_false {xs ys : List Int} (h : ¬ inP xs ys) : inB xs ys = false := by
  cases hb : inB xs ys with
  | false => rfl
  | true => exact absurd ((inB_iff _ _).1 hb) h
/-- Does the first shape contain the second one. -/
def contB (xs ys : List Int) : Bool := isShapeB xs && isShapeB ys && inB xs ys
set_option maxHeartbeats 800000 in
theorem l4Contains_any (A A2 : Option Addr) (n c n2 c2 : Nat) (xs ys : List Int) (w : World) (hs : SI w A n xs) (hs2 : SI w A2 n2 ys) (hn : n ≤ 1099511627776) (hn2 : n2 ≤ 1099511627776) :
    Calls Try.prog 57 #[.slice A n c, .slice A2 n2 c2] w fun e w' => e = .returned (.bool (inB xs ys)) ∧ Drawn w w' := by
  have HL := Lib.hid hs.1
  have HL2 := Lib.hid hs2.1
  by_cases hlen : n < n2
  · have HF := Lib.hid (inB_false (xs := xs) (ys := ys) (fun h => by have := h.1; have := HL.out; have := HL2.out; omega))
    have hlI : (n : Int) < (n2 : Int) := by omega
    go_enter Try.func57, Try.ntmps57
    go_wp2
    go_ret
    exact ⟨ret_bool HF.out.symm, Drawn.refl _⟩
  · have hlI : ¬ (n : Int) < (n2 : Int) := by omega
    go_enter Try.func57, Try.ntmps57
    go_wp2
    go_loopw [5] (fun i wr => ∃ k : Nat, k ≤ n2 ∧ i = .int .i64 k ∧ Drawn w wr ∧ ∀ j, j < k → nth ys j ≤ nth xs j)
      (fun i _ => n2 - (intOf i).toNat)
    case atStart => exact ⟨0, Nat.zero_le _, rfl, Drawn.refl _, fun j hj => absurd hj (by omega)⟩
    case round =>
      obtain ⟨k, hk, rfl, hD, hall⟩ := hrel
      have HA := Lib.hid hall
      have HD := Lib.hid hD
      have hs := hD.si hs
      have hs2 := hD.si hs2
      clear hall hD
      by_cases hlt : k < n2
      · have hkI : (k : Int) < (n : Int) := by omega
        have hkI2 : (k : Int) < (n2 : Int) := by omega
        obtain ⟨b, o, rfl, hb, hc⟩ := hs.at_ (by omega)
        obtain ⟨b2, o2, rfl, hb2, hc2⟩ := hs2.at_ (by omega)
        have hc1 := hc k (by omega)
        have hc21 := hc2 k hlt
        obtain ⟨x, hx⟩ : ∃ x, x = nth xs k := ⟨_, rfl⟩
        obtain ⟨y, hy⟩ : ∃ y, y = nth ys k := ⟨_, rfl⟩
        rw [← hx] at hc1
        rw [← hy] at hc21
        have HX := Lib.hid hx
        have HY := Lib.hid hy
        clear hc hc2 hx hy hs hs2
        by_cases hxy : x < y
        · have HF := Lib.hid (inB_false (xs := xs) (ys := ys) (fun h => by have := h.2 k (by rw [HL2.out]; exact hlt); have := HX.out; have := HY.out; omega))
          go_wp2_with fail
          go_quiet (fail)
          go_wp2
          go_ret
          exact ⟨ret_bool HF.out.symm, HD.out.drewN _⟩
        · have HG : Hid (nth ys k ≤ nth xs k) := Lib.hid (by have := HX.out; have := HY.out; omega)
          go_wp2_with fail
          go_quiet (fail)
          go_wp2
          go_roundw
          case rel => exact ⟨k + 1, by omega, by go_num, HD.out.drewN _, fun j hj => by
            rcases Nat.lt_or_ge j k with h | h
            · exact HA.out j h
            · obtain rfl : j = k := by omega
              exact HG.out⟩
          case measure => simp [intOf]; omega
      · have hkn : k = n2 := by omega
        subst hkn
        go_wp2
        go_ret
        exact ⟨ret_bool (inB_true ⟨by have := HL.out; have := HL2.out; omega, by rw [HL2.out]; exact HA.out⟩).symm, HD.out⟩
set_option maxHeartbeats 800000 in
theorem specContains_any (A A2 : Option Addr) (n c n2 c2 : Nat) (xs ys : List Int) (w : World) (hs : SI w A n xs) (hs2 : SI w A2 n2 ys) (hn : n ≤ 1099511627776) (hn2 : n2 ≤ 1099511627776) :
    Calls Try.prog 23 #[.slice A n c, .slice A2 n2 c2] w fun e w' => e = .returned (.bool (contB xs ys)) ∧ Drawn w w' := by
  have HA := Lib.hid (specIsShape_any A n c xs w hs hn)
  have HB := Lib.hid (fun w' (hd : Drawn w w') => specIsShape_any A2 n2 c2 ys w' (hd.si hs2) hn2)
  have HC := Lib.hid (fun w' (hd : Drawn w w') => l4Contains_any A A2 n c n2 c2 xs ys w' (hd.si hs) (hd.si hs2) hn hn2)
  clear hs hs2
  unfold contB
  cases ha : isShapeB xs with
  | false =>
    rw [ha] at HA
    clear ha
    go_enter Try.func23, Try.ntmps23
    go_wp2_with (go_at_call 15; refine HA.out.mono ?_; rintro e w1 ⟨rfl, hd1⟩)
    go_ret
    exact ⟨rfl, hd1⟩
  | true =>
    rw [ha] at HA
    clear ha
    cases hb : isShapeB ys with
    | false =>
      rw [hb] at HB
      clear hb
      go_enter Try.func23, Try.ntmps23
      go_wp2_with (go_at_call 15; first | ((with_reducible refine HA.out.mono ?_); rintro e w1 ⟨rfl, hd1⟩; have HD1 := Lib.hid hd1; clear hd1) | ((with_reducible refine (HB.out _ HD1.out).mono ?_); rintro e w2 ⟨rfl, hd2⟩; have HD2 := Lib.hid (HD1.out.trans hd2); clear hd2))
      go_ret
      exact ⟨rfl, HD2.out⟩
    | true =>
      rw [hb] at HB
      clear hb
      go_enter Try.func23, Try.ntmps23
      go_wp2_with (first
        | (go_at_call 15; first | ((with_reducible refine HA.out.mono ?_); rintro e w1 ⟨rfl, hd1⟩; have HD1 := Lib.hid hd1; clear hd1) | ((with_reducible refine (HB.out _ HD1.out).mono ?_); rintro e w2 ⟨rfl, hd2⟩; have HD2 := Lib.hid (HD1.out.trans hd2); clear hd2))
        | (go_at_call 57; refine (HC.out _ HD2.out).mono ?_; rintro e w3 ⟨rfl, hd3⟩; have HD3 := Lib.hid (HD2.out.trans hd3); clear hd3))
      go_ret
      exact ⟨ret_bool (by simp), HD3.out⟩
set_option maxRecDepth 100000 in
set_option maxHeartbeats 800000 in
theorem implContains_any (A A2 : Option Addr) (n c n2 c2 : Nat) (xs ys : List Int) (w : World) (hs : SI w A n xs) (hs2 : SI w A2 n2 ys) (hn : n ≤ 1099511627776) (hn2 : n2 ≤ 1099511627776) :
    Calls Try.prog 24 #[.slice A n c, .slice A2 n2 c2] w fun e w' => e = .returned (.bool (contB xs ys)) ∧ Below w.heap.size w w' := by
  have HA := Lib.hid (implIsShape_any A n c xs w hs hn)
  have HB := Lib.hid (fun w' (hd : Drawn w w') => implIsShape_any A2 n2 c2 ys w' (hd.si hs2) hn2)
  have HL := Lib.hid hs.1
  have HL2 := Lib.hid hs2.1
  unfold contB
  cases ha : isShapeB xs with
  | false =>
    rw [ha] at HA
    clear ha hs hs2
    go_enter Try.func24, Try.ntmps24
    go_wp2_with (go_at_call 17; refine HA.out.mono ?_; rintro e w1 ⟨rfl, hd1⟩; have HD1 := Lib.hid (hd1.below w.heap.size); clear hd1)
    go_ret
    exact ⟨rfl, HD1.out⟩
  | true =>
    rw [ha] at HA
    cases hb : isShapeB ys with
    | false =>
      rw [hb] at HB
      clear hb ha hs hs2
      go_enter Try.func24, Try.ntmps24
      go_wp2_with (go_at_call 17; first | ((with_reducible refine HA.out.mono ?_); rintro e w1 ⟨rfl, hd1⟩; have HD1 := Lib.hid hd1; clear hd1) | ((with_reducible refine (HB.out _ HD1.out).mono ?_); rintro e w2 ⟨rfl, hd2⟩; have HD2 := Lib.hid ((HD1.out.trans hd2).below w.heap.size); clear hd2))
      go_ret
      exact ⟨rfl, HD2.out⟩
    | true =>
      rw [hb] at HB
      have hpa := isShapeB_P ha
      have hpb := isShapeB_P hb
      have h16 : n ≤ 16 := by have := hpa.1; have := hs.1; omega
      have h162 : n2 ≤ 16 := by have := hpb.1; have := hs2.1; omega
      have HPB := Lib.hid hpb
      have HR := Lib.hid (fun w' (hd : Drawn w w') => rowLengthsOf_any A n c xs w' (hd.si hs) h16)
      have HS2 := Lib.hid hs2
      clear ha hb hs hs2 hpa hpb
      go_enter Try.func24, Try.ntmps24
      go_upto_region 4 with (first
        | (go_at_call 17; first | ((with_reducible refine HA.out.mono ?_); rintro e w1 ⟨rfl, hd1⟩; have HD1 := Lib.hid hd1; clear hd1) | ((with_reducible refine (HB.out _ HD1.out).mono ?_); rintro e w2 ⟨rfl, hd2⟩; have HD2 := Lib.hid (HD1.out.trans hd2); clear hd2))
        | (go_at_call 58; refine (HR.out _ HD2.out).mono ?_; rintro e w3 ⟨rfl, hb3⟩; have HB3 : Hid (Below w.heap.size w w3) := Lib.hid ((HD2.out.below _).trans (hb3.mono (HD2.out.below w.heap.size).size)); clear hb3))
      obtain ⟨w4, hw4⟩ : ∃ w4, w4 = w3.alloc (.cells (arrD (padN 16 xs)) 61) := ⟨_, rfl⟩
      have HB4 : Hid (Below w.heap.size w w4) := Lib.hid (by rw [hw4]; exact HB3.out.alloc HB3.out.size _)
      have HK4 : Hid (Blk w4 w3.heap.size 61 (arrD (padN 16 xs))) := Lib.hid (by rw [hw4]; exact Blk.new _ _ _)
      rw [← hw4]
      clear hw4
      generalize arr16 (padN 16 xs) = va
      go_wp2_with fail
      go_loopw [20] (fun i wr => ∃ k : Nat, k ≤ n2 ∧ i = .int .i64 k ∧ Drawn w4 wr ∧ ∀ j, j < k → nth ys j ≤ nth xs j)
        (fun i _ => n2 - (intOf i).toNat)
      case atStart => exact ⟨0, Nat.zero_le _, rfl, Drawn.refl _, fun j hj => absurd hj (by omega)⟩
      case round =>
        obtain ⟨k, hk, rfl, hD, hall⟩ := hrel
        have HA' := Lib.hid hall
        have HD := Lib.hid (HB4.out.trans (hD.below _))
        have HDR := Lib.hid hD
        by_cases hlt : k < n2
        · have hkI : (k : Int) < (n2 : Int) := by omega
          obtain ⟨b2, o2, rfl, hb2, hc2⟩ := (HS2.out.below HD.out (Nat.le_refl _)).at_ (by omega)
          have hc21 := hc2 k hlt
          have hc1 : wr.cell? ⟨w3.heap.size, k, none⟩ = some (.int .i64 (nth xs k)) := by
            rw [(HK4.out.drawn hD).cell k, arrD_get _ k (by omega), padN_nth]
          have hk16 : (k : Int) < 16 := by omega
          obtain ⟨x, hx⟩ : ∃ x, x = nth xs k := ⟨_, rfl⟩
          obtain ⟨y, hy⟩ : ∃ y, y = nth ys k := ⟨_, rfl⟩
          rw [← hx] at hc1
          rw [← hy] at hc21
          have HX := Lib.hid hx
          have HY := Lib.hid hy
          clear hc2 hx hy hD hall
          by_cases hxy : x < y
          · have HF := Lib.hid (inB_false (xs := xs) (ys := ys) (fun h => by have := h.2 k (by rw [HL2.out]; exact hlt); have := HX.out; have := HY.out; omega))
            go_wp2
            go_ret
            exact ⟨ret_bool (by rw [HF.out]; rfl), HD.out⟩
          · have HG : Hid (nth ys k ≤ nth xs k) := Lib.hid (by have := HX.out; have := HY.out; omega)
            go_wp2
            go_roundw
            case rel => exact ⟨k + 1, by omega, by go_num, HDR.out, fun j hj => by
              rcases Nat.lt_or_ge j k with h | h
              · exact HA'.out j h
              · obtain rfl : j = k := by omega
                exact HG.out⟩
            case measure => simp [intOf]; omega
        · have hkn : k = n2 := by omega
          subst hkn
          have HT : Hid (inB xs ys = true) := Lib.hid (inB_true ⟨by
            rcases Nat.lt_or_ge xs.length ys.length with h | h
            · have h1 := hall xs.length (by have := HL2.out; omega)
              rw [nth_out (xs := xs) (Nat.le_refl _)] at h1
              have h2 := (HPB.out.2 xs.length h).1
              omega
            · exact h, by rw [HL2.out]; exact hall⟩)
          clear hD hall
          go_wp2
          go_ret
          exact ⟨ret_bool (by rw [HT.out]; rfl), HD.out⟩
end Go.Proofs.Ythinbmjcdcmioaa

/-
  The conjugate shape, on both sides. Conditions: lengths below 2^40.
-/


namespace Go.Proofs.Ythinbmjcdcmioaa
open Go.RowKit

/-- How many of the first k numbers are more than j. -/
def cntN (xs : List Int) (j : Nat) : Nat → Int
  | 0 => 0
  | k + 1 => if (j : Int) < nth xs k then cntN xs j k + 1 else cntN xs j k
theorem cntN_range (xs : List Int) (j : Nat) : ∀ k : Nat, 0 ≤ cntN xs j k ∧ cntN xs j k ≤ (k : Int)
  | 0 => ⟨Int.le_refl _, Int.le_refl _⟩
  | k + 1 => by
    have := cntN_range xs j k
    unfold cntN
    split <;> omega
def conjL (xs : List Int) (m : Nat) : List Int := (List.range m).map fun j => cntN xs j xs.length
theorem conjL_len (xs : List Int) (m : Nat) : (conjL xs m).length = m := by simp [conjL]
theorem conjL_succ (xs : List Int) (m : Nat) : conjL xs (m + 1) = conjL xs m ++ [cntN xs m xs.length] := by simp [conjL, List.range_succ]
/-- What ConjugateShape answers. -/
def conjShape (xs : List Int) : List Int := if isShapeB xs = true then conjL xs (nth xs 0).toNat else []
theorem conj_no {xs : List Int} (h : isShapeB xs = false) : conjShape xs = [] := by unfold conjShape; rw [if_neg (by rw [h]; decide)]
theorem conj_yes {xs : List Int} (h : isShapeB xs = true) : conjShape xs = conjL xs (nth xs 0).toNat := by unfold conjShape; rw [if_pos h]
theorem shape_first {xs : List Int} (h : isShapeP xs) : ∀ k, k < xs.length → nth xs k ≤ nth xs 0 := by
  intro k
  induction k with
  | zero => intro _; exact Int.le_refl _
  | succ k ih => intro hk; have h1 := ih (by omega); have h2 : nth xs (k + 1) ≤ nth xs k := (h.2 (k + 1) hk).2; omega
theorem shape_range {xs : List Int} (h : isShapeP xs) : ∀ k, 0 ≤ nth xs k ∧ nth xs k ≤ 16 := by
  have h0 : nth xs 0 ≤ 16 ∨ xs.length = 0 := by
    by_cases hl : xs.length = 0
    · exact .inr hl
    · exact .inl ((h.2 0 (by omega)).2)
  intro k
  by_cases hk : k < xs.length
  · have h1 := (h.2 k hk).1
    have h2 := shape_first h k hk
    omega
  · rw [nth_out (by omega)]; omega
theorem conj_small (xs : List Int) : (conjShape xs).length ≤ 1099511627775 := by
  unfold conjShape
  split
  · rename_i h
    rw [conjL_len]
    have := shape_range (isShapeB_P h) 0
    omega
  · simp
theorem Fresh.nil_ret' {w w' : World} (h : Below w.heap.size w w') : Fresh w w' (.returned (.slice none 0 0)) [] := ⟨none, 0, 0, rfl, Own.nil _ _ _, h⟩
set_option maxHeartbeats 400000 in
theorem l4At_any (A : Option Addr) (n c : Nat) (xs : List Int) (i : Nat) (w : World) (hs : SI w A n xs) (hn : n ≤ 1099511627776) (hi : i ≤ 1099511627776) :
    Calls Try.prog 56 #[.slice A n c, .int .i64 i] w fun e w' => e = .returned (.int .i64 (nth xs i)) ∧ w = w' := by
  by_cases hlt : i < n
  · obtain ⟨b, o, rfl, hb, hc⟩ := hs.at_ (by omega)
    have hc1 := hc i hlt
    have hlI : (i : Int) < (n : Int) := by omega
    obtain ⟨x, hx⟩ : ∃ x, x = nth xs i := ⟨_, rfl⟩
    rw [← hx] at hc1 ⊢
    clear hc hs hx
    go_enter Try.func56, Try.ntmps56
    go_wp2
    go_ret
    exact ⟨rfl, rfl⟩
  · rw [nth_out (by have := hs.1; omega)]
    have hlI : ¬ (i : Int) < (n : Int) := by omega
    clear hs
    go_enter Try.func56, Try.ntmps56
    go_wp2
    go_ret
    exact ⟨rfl, rfl⟩
set_option maxHeartbeats 1600000 in
theorem specConj_any (A : Option Addr) (n c : Nat) (xs : List Int) (w : World) (hs : SI w A n xs) (hn : n ≤ 1099511627776) :
    Calls Try.prog 19 #[.slice A n c] w fun e w' => Fresh w w' e (conjShape xs) := by
  have HI := Lib.hid (specIsShape_any A n c xs w hs hn)
  cases hu : isShapeB xs with
  | false =>
    rw [hu] at HI
    have HE := Lib.hid (conj_no hu)
    clear hu hs
    go_enter Try.func19, Try.ntmps19
    go_wp2_with (go_at_call 15; refine HI.out.mono ?_; rintro e w1 ⟨rfl, hd1⟩)
    go_ret
    rw [HE.out]
    exact Fresh.nil_ret' (hd1.below _)
  | true =>
    rw [hu] at HI
    have hp := isShapeB_P hu
    have HL := Lib.hid hs.1
    have h16 : n ≤ 16 := by have := hp.1; have := hs.1; omega
    obtain ⟨m, hm⟩ : ∃ m : Nat, nth xs 0 = (m : Int) := ⟨(nth xs 0).toNat, by have := (shape_range hp 0).1; omega⟩
    have hm16 : m ≤ 16 := by have := (shape_range hp 0).2; omega
    have HE : Hid (conjShape xs = conjL xs m) := Lib.hid (by rw [conj_yes hu, hm, Int.toNat_natCast])
    have HA0 : Hid (∀ w' : World, Below w.heap.size w w' → Calls Try.prog 56 #[.slice A n c, .int .i64 0] w' fun e w'' => e = .returned (.int .i64 m) ∧ w' = w'') := Lib.hid (fun w' hb => by
      have := l4At_any A n c xs 0 w' (hs.below hb (Nat.le_refl _)) hn (by omega)
      rw [hm] at this; exact this)
    have HS := Lib.hid hs
    clear hu hs hp hm
    go_enter Try.func19, Try.ntmps19
    go_wp2_with (go_at_call 15; refine HI.out.mono ?_; rintro e w1 ⟨rfl, hd1⟩; have HD1 : Hid (Below w.heap.size w w1) := Lib.hid (hd1.below _); have HZ1 : Hid (w1.heap.size = w.heap.size) := Lib.hid (by rw [hd1.heap]); clear hd1)
    go_loopw [3, 4] (fun ov jv wr => ∃ (j : Nat) (Ao : Option Addr) (co : Nat), j ≤ m ∧ jv = .int .i64 j ∧ ov = .slice Ao j co ∧ Own wr w.heap.size wr.heap.size Ao j co (conjL xs j) ∧ Below w.heap.size w wr)
      (fun _ jv _ => m - (intOf jv).toNat)
    case atStart => exact ⟨0, _, _, Nat.zero_le _, rfl, rfl, (Own.empty w1).wide (by rw [HZ1.out]; exact Nat.le_refl _) (by simp), HD1.out.alloc (by rw [HZ1.out]; exact Nat.le_refl _) _⟩
    case round =>
      obtain ⟨j, Ao, co, hj, rfl, rfl, hown, hbw⟩ := hrel
      have HO := Lib.hid hown
      have HB := Lib.hid hbw
      clear hown hbw
      obtain ⟨wo, rfl⟩ : ∃ wo, wo = wr := ⟨wr, rfl⟩
      by_cases hlt : j < m
      · have hlI : (j : Int) < (m : Int) := by omega
        go_wp2_with (go_at_call 56; refine (HA0.out _ HB.out).mono ?_; rintro e w2 ⟨rfl, rfl⟩)
        go_loopw [5, 6] (fun nv iv wx => ∃ i : Nat, i ≤ n ∧ iv = .int .i64 i ∧ nv = .int .i64 (cntN xs j i) ∧ wx = wo)
          (fun _ iv _ => n - (intOf iv).toNat)
        case atStart => exact ⟨0, Nat.zero_le _, rfl, rfl, rfl⟩
        case round =>
          obtain ⟨i, hi, rfl, rfl, hwx⟩ := hrel
          have HWX := Lib.hid hwx
          have hso := HS.out.below HB.out (Nat.le_refl _)
          rw [← hwx] at hso
          clear hwx
          by_cases hlt2 : i < n
          · have hiI : (i : Int) < (n : Int) := by omega
            obtain ⟨b, o, rfl, hb, hc⟩ := hso.at_ (by omega)
            have hc1 := hc i hlt2
            have hr := cntN_range xs j i
            have e : cntN xs j (i + 1) = if (j : Int) < nth xs i then cntN xs j i + 1 else cntN xs j i := rfl
            obtain ⟨x, hx⟩ : ∃ x, x = nth xs i := ⟨_, rfl⟩
            obtain ⟨y, hy⟩ : ∃ y, y = cntN xs j i := ⟨_, rfl⟩
            rw [← hx, ← hy] at e
            rw [← hx] at hc1
            rw [← hy] at hr ⊢
            obtain ⟨hr0, hr1⟩ := hr
            have hwp : IntKind.i64.wrap (y + 1) = y + 1 := IntWalk.i64_in _ (by omega)
            clear hc hx hy hso
            by_cases hjx : (j : Int) < x
            · rw [if_pos hjx] at e
              have HE2 := Lib.hid e
              clear e
              go_wp2
              go_roundw
              case rel => exact ⟨i + 1, by omega, by go_num, by rw [HE2.out], HWX.out⟩
              case measure => simp [intOf]; omega
            · rw [if_neg hjx] at e
              have HE2 := Lib.hid e
              clear e
              go_wp2
              go_roundw
              case rel => exact ⟨i + 1, by omega, by go_num, by rw [HE2.out], HWX.out⟩
              case measure => simp [intOf]; omega
          · have hin : i = n := by omega
            subst hin
            have HC : Hid (conjL xs (j + 1) = conjL xs j ++ [cntN xs j i]) := Lib.hid (by rw [conjL_succ, HL.out])
            obtain ⟨y, hy⟩ : ∃ y, y = cntN xs j i := ⟨_, rfl⟩
            rw [← hy] at HC ⊢
            have HO' : Hid (Own wr w.heap.size wr.heap.size Ao j co (conjL xs j)) := Lib.hid (by rw [HWX.out]; exact HO.out)
            have HB' : Hid (Below w.heap.size w wr) := Lib.hid (by rw [HWX.out]; exact HB.out)
            clear hso hy
            go_wp2_with (at_builtin; refine wpList_append1 rfl (.tmp 31) (.tmp 33) rfl w.heap.size Ao j co (conjL xs j) y rfl rfl HO'.out HB'.out.size (by omega) ?_; intro A' c' w5 ho5 _ hb5)
            go_roundw
            case rel => exact ⟨j + 1, _, _, by omega, by go_num, rfl, by rw [HC.out]; exact ho5, HB'.out.trans hb5⟩
            case measure => simp [intOf]; omega
      · have hjm : j = m := by omega
        subst hjm
        go_wp2_with (go_at_call 56; refine (HA0.out _ HB.out).mono ?_; rintro e w2 ⟨rfl, rfl⟩)
        go_ret
        rw [HE.out]
        exact ⟨Ao, _, co, rfl, HO.out, HB.out⟩
end Go.Proofs.Ythinbmjcdcmioaa

/-
  The conjugate shape, the program's side. Conditions: lengths below 2^40.
-/

namespace Go.Proofs.Ythinbmjcdcmioaa
open Go.RowKit

/-- The columns when i rows are counted, and j cells of the next one. -/
def colM (xs : List Int) (m i j : Nat) : List Int := (List.range m).map fun t => if t < j then cntN xs t (i + 1) else cntN xs t i
theorem colM_len (xs : List Int) (m i j : Nat) : (colM xs m i j).length = m := by simp [colM]
theorem colM_nth {xs : List Int} {m i j t : Nat} (h : t < m) : nth (colM xs m i j) t = if t < j then cntN xs t (i + 1) else cntN xs t i := by
  rw [nth_get (by rw [colM_len]; exact h)]; simp [colM]
theorem list_ext_nth {a b : List Int} (hl : a.length = b.length) (h : ∀ k, k < a.length → nth a k = nth b k) : a = b := by
  apply List.ext_getElem hl
  intro j h1 h2
  rw [← nth_get h1, ← nth_get h2]
  exact h j h1
theorem nth_set {l : List Int} {k : Nat} (x : Int) (hk : k < l.length) (j : Nat) : nth (l.set k x) j = if j = k then x else nth l j := by
  unfold nth
  rw [List.getD_eq_getElem?_getD, List.getD_eq_getElem?_getD, List.getElem?_set]
  by_cases h : k = j
  · subst h; simp [hk]
  · rw [if_neg h, if_neg (fun h' => h h'.symm)]
theorem colM_step {xs : List Int} {m i j : Nat} (hj : j < m) (hx : (j : Int) < nth xs i) : (colM xs m i j).set j (cntN xs j i + 1) = colM xs m i (j + 1) := by
  refine list_ext_nth (by simp [colM_len]) fun k hk => ?_
  have hk' : k < m := by simpa [colM_len] using hk
  rw [nth_set _ (by rw [colM_len]; exact hj), colM_nth hk', colM_nth hk']
  by_cases h : k = j
  · subst h
    rw [if_pos rfl, if_pos (by omega)]
    show _ = if (k : Int) < nth xs i then cntN xs k i + 1 else cntN xs k i
    rw [if_pos hx]
  · rw [if_neg h]
    by_cases h2 : k < j
    · rw [if_pos h2, if_pos (by omega)]
    · rw [if_neg h2, if_neg (by omega)]
theorem colM_row {xs : List Int} {m i j : Nat} (hx : nth xs i = (j : Int)) : colM xs m i j = colM xs m (i + 1) 0 := by
  refine list_ext_nth (by simp [colM_len]) fun k hk => ?_
  have hk' : k < m := by simpa [colM_len] using hk
  rw [colM_nth hk', colM_nth hk', if_neg (by omega : ¬ k < 0)]
  by_cases h : k < j
  · rw [if_pos h]
  · rw [if_neg h]
    show _ = if (k : Int) < nth xs i then cntN xs k i + 1 else cntN xs k i
    rw [if_neg (by omega)]
theorem colM_start (xs : List Int) (m : Nat) : colM xs m 0 0 = List.replicate m 0 := by
  refine list_ext_nth (by simp [colM_len]) fun k hk => ?_
  have hk' : k < m := by simpa [colM_len] using hk
  rw [colM_nth hk', if_neg (by omega), nth_get (by simpa using hk')]
  simp [cntN]
theorem colM_all (xs : List Int) (m : Nat) : colM xs m xs.length 0 = conjL xs m := by
  refine list_ext_nth (by simp [colM_len, conjL_len]) fun k hk => ?_
  have hk' : k < m := by simpa [colM_len] using hk
  rw [colM_nth hk', if_neg (by omega), nth_get (by simpa [conjL_len] using hk')]
  simp [conjL]
set_option maxHeartbeats 1600000 in
theorem implConj_any (A : Option Addr) (n c : Nat) (xs : List Int) (w : World) (hs : SI w A n xs) (hn : n ≤ 1099511627776) :
    Calls Try.prog 20 #[.slice A n c] w fun e w' => Fresh w w' e (conjShape xs) := by
  have HI := Lib.hid (implIsShape_any A n c xs w hs hn)
  cases hu : isShapeB xs with
  | false =>
    rw [hu] at HI
    have HE := Lib.hid (conj_no hu)
    clear hu hs
    go_enter Try.func20, Try.ntmps20
    go_wp2_with (go_at_call 17; refine HI.out.mono ?_; rintro e w1 ⟨rfl, hd1⟩)
    go_ret
    rw [HE.out]
    exact Fresh.nil_ret' (hd1.below _)
  | true =>
    rw [hu] at HI
    have hp := isShapeB_P hu
    have hl := hs.1
    by_cases h0 : n = 0
    · have HE : Hid (conjShape xs = []) := Lib.hid (by rw [conj_yes hu, nth_out (by omega)]; rfl)
      subst h0
      clear hu hs hp
      go_enter Try.func20, Try.ntmps20
      go_wp2_with (go_at_call 17; refine HI.out.mono ?_; rintro e w1 ⟨rfl, hd1⟩)
      go_ret
      rw [HE.out]
      exact Fresh.nil_ret' (hd1.below _)
    · have h0I : ((n : Int) == 0) = false := by simpa using h0
      have HL := Lib.hid hl
      have h16 : n ≤ 16 := by have := hp.1; omega
      obtain ⟨m, hm⟩ : ∃ m : Nat, nth xs 0 = (m : Int) := ⟨(nth xs 0).toNat, by have := (shape_range hp 0).1; omega⟩
      have hm16 : m ≤ 16 := by have := (shape_range hp 0).2; omega
      have HE : Hid (conjShape xs = conjL xs m) := Lib.hid (by rw [conj_yes hu, hm, Int.toNat_natCast])
      have HF : Hid (∀ k, k < n → 0 ≤ nth xs k ∧ nth xs k ≤ m) := Lib.hid (fun k hk => ⟨(shape_range hp k).1, by rw [← hm]; exact shape_first hp k (by omega)⟩)
      obtain ⟨b, o, rfl, hb, hc⟩ := hs.at_ (by omega)
      have hc0 := hc 0 (by omega)
      rw [hm, Nat.add_zero] at hc0
      have HS := Lib.hid hs
      have hnI : (0 : Int) < (n : Int) := by omega
      clear hu hs hp hm hc h0 hl
      go_enter Try.func20, Try.ntmps20
      go_wp2_with (first
        | (go_at_call 17; refine HI.out.mono ?_; rintro e w1 ⟨rfl, hd1⟩
           have HD1 : Hid (Below w.heap.size w w1) := Lib.hid (hd1.below _)
           have HZ1 : Hid (w1.heap.size = w.heap.size) := Lib.hid (by rw [hd1.heap])
           have hc01 : w1.cell? ⟨b, o, none⟩ = some (.int .i64 m) := ((hd1.below w.heap.size).cell (p := ⟨b, o, none⟩) hb).trans hc0
           clear hd1)
        | (at_make; refine wpList_make_zero rfl (.tmp 17) (.tmp 17) rfl m rfl rfl (by omega) ?_; intro w2 ho2 hb2; have HO2 := Lib.hid ho2; have HB2 := Lib.hid hb2; clear ho2 hb2))
      obtain ⟨B, hB⟩ : ∃ B, B = w1.heap.size := ⟨_, rfl⟩
      have HBE : Hid (B = w.heap.size) := Lib.hid (by rw [hB]; exact HZ1.out)
      rw [← hB] at HO2 HB2 ⊢
      have HBW : Hid (Below w.heap.size w w2) := Lib.hid (HD1.out.trans (by have := HB2.out; rwa [HBE.out] at this))
      have HO2' : Hid (Own w2 B (B + 1) (some ⟨B, 0, none⟩) m m (colM xs m 0 0)) := Lib.hid (by rw [colM_start]; exact ⟨HO2.out.1, fun k hk => by simp [Value.ownBlock] at hk; omega⟩)
      have HZ2 : Hid (B + 1 ≤ w2.heap.size) := Lib.hid (by have := HO2.out.lt B rfl; omega)
      clear HO2 HB2 hB hc0 hc01
      go_loopw [21] (fun iv wr => ∃ i : Nat, i ≤ n ∧ iv = .int .i64 i ∧ Own wr B (B + 1) (some ⟨B, 0, none⟩) m m (colM xs m i 0) ∧ Below w.heap.size w wr ∧ B + 1 ≤ wr.heap.size)
        (fun iv _ => n - (intOf iv).toNat)
      case atStart => exact ⟨0, Nat.zero_le _, rfl, HO2'.out, HBW.out, HZ2.out⟩
      case round =>
        obtain ⟨i, hi, rfl, hown, hbw, hz⟩ := hrel
        clear HO2' HBW HZ2
        have HO := Lib.hid hown
        have HB := Lib.hid hbw
        have HZ := Lib.hid hz
        clear hown hbw hz
        by_cases hlt : i < n
        · have hiI : (i : Int) < (n : Int) := by omega
          have hs' := HS.out.below HB.out (Nat.le_refl _)
          obtain ⟨b', o', e1, hb', hc'⟩ := hs'.at_ (by omega)
          obtain ⟨rfl, rfl⟩ : b = b' ∧ o = o' := by simpa using e1
          have hc1 := hc' i hlt
          obtain ⟨t, ht⟩ : ∃ t : Nat, nth xs i = (t : Int) := ⟨(nth xs i).toNat, by have := (HF.out i hlt).1; omega⟩
          have HT : Hid (t ≤ m) := Lib.hid (by have := (HF.out i hlt).2; omega)
          have HTX := Lib.hid ht
          rw [ht] at hc1
          clear hs' e1 hb' hc' ht
          go_wp2_with fail
          go_loopw [26] (fun jv wx => ∃ j : Nat, j ≤ t ∧ jv = .int .i64 j ∧ Own wx B (B + 1) (some ⟨B, 0, none⟩) m m (colM xs m i j) ∧ Below w.heap.size w wx ∧ B + 1 ≤ wx.heap.size)
            (fun jv _ => t - (intOf jv).toNat)
          case atStart => exact ⟨0, Nat.zero_le _, rfl, HO.out, HB.out, HZ.out⟩
          case round =>
            obtain ⟨j, hj, rfl, hown, hbw, hz⟩ := hrel
            clear HO HB HZ hc1
            have HO := Lib.hid hown
            have HB := Lib.hid hbw
            have HZ := Lib.hid hz
            by_cases hlt2 : j < t
            · have hjI : (j : Int) < (t : Int) := by omega
              have hjm : j < m := by have := HT.out; omega
              have hjmI : (j : Int) < (m : Int) := by omega
              have hcc := hown.cellAt (k := j) hjm
              have hff := hown.frozenAt j
              rw [colM_nth hjm, if_neg (by omega)] at hcc
              have hr := cntN_range xs j i
              have hset := (hown.set_ (k := j) (cntN xs j i + 1)).1
              rw [colM_step hjm (by rw [HTX.out]; omega)] at hset
              obtain ⟨y, hy⟩ : ∃ y, y = cntN xs j i := ⟨_, rfl⟩
              rw [← hy] at hcc hr hset
              obtain ⟨hr0, hr1⟩ := hr
              have hwp : IntKind.i64.wrap (y + 1) = y + 1 := IntWalk.i64_in _ (by omega)
              have HSET := Lib.hid hset
              clear hset hy hown hbw hz
              go_wp2
              go_roundw
              case rel => exact ⟨j + 1, by omega, by go_num, HSET.out, HB.out.setCell (by rw [← HBE.out]; exact Nat.le_refl _) _, by simpa using HZ.out⟩
              case measure => simp [intOf]; omega
            · have hjt : j = t := by omega
              subst hjt
              have hown' := hown
              rw [colM_row HTX.out] at hown'
              have HO3 := Lib.hid hown'
              clear hown hown' hbw hz
              go_wp2
              go_roundw
              case rel => exact ⟨i + 1, by omega, by go_num, HO3.out, HB.out, HZ.out⟩
              case measure => simp [intOf]; omega
        · have hin : i = n := by omega
          subst hin
          have HO3 := HO.out
          rw [show i = xs.length from HL.out.symm, colM_all] at HO3
          have HO4 := Lib.hid HO3
          clear HO3
          go_wp2
          go_ret
          rw [HE.out]
          exact ⟨_, _, _, rfl, HO4.out.wide (by rw [HBE.out]; exact Nat.le_refl _) HZ.out, HB.out⟩
end Go.Proofs.Ythinbmjcdcmioaa

/-
  Shapes in a box and their permutations, on both sides. Conditions: lengths below 2^40.
-/

namespace Go.Proofs.Ythinbmjcdcmioaa
open Go.RowKit

/-- Is the list a shape in the box of k and m. -/
def boxP (xs : List Int) (k m : Int) : Prop := 1 ≤ m ∧ m ≤ 7 ∧ 0 ≤ k ∧ k ≤ m ∧ isShapeP xs ∧ (xs.length : Int) ≤ k ∧ nth xs 0 ≤ m - k
def boxB (xs : List Int) (k m : Int) : Bool := decide (1 ≤ m) && decide (m ≤ 7) && decide (0 ≤ k) && decide (k ≤ m) && isShapeB xs && decide ((xs.length : Int) ≤ k) && decide (nth xs 0 ≤ m - k)
theorem boxB_iff (xs : List Int) (k m : Int) : boxB xs k m = true ↔ boxP xs k m := by simp [boxB, boxP, and_assoc, isShapeB_iff]
theorem boxB_P {xs : List Int} {k m : Int} (h : boxB xs k m = true) : boxP xs k m := (boxB_iff _ _ _).1 h
theorem boxB_true {xs : List Int} {k m : Int} (h : boxP xs k m) : boxB xs k m = true := (boxB_iff _ _ _).2 h
theorem boxB_false {xs : List Int} {k m : Int} (h : ¬ boxP xs k m) : boxB xs k m = false := by
  cases hb : boxB xs k m with
  | false => rfl
  | true => exact absurd (boxB_P hb) h
set_option maxHeartbeats 1600000 in
theorem l4Box_any (A : Option Addr) (n c : Nat) (xs : List Int) (k m : Int) (w : World) (hs : SI w A n xs) (hn : n ≤ 1099511627776) :
    Calls Try.prog 71 #[.slice A n c, .int .i64 k, .int .i64 m] w fun e w' => e = .returned (.bool (boxB xs k m)) ∧ Drawn w w' := by
  have HL := Lib.hid hs.1
  by_cases h1 : 1 ≤ m ∧ m ≤ 7
  · have H1 := Lib.hid (fun w => l1In_yes' h1.1 h1.2 w)
    by_cases h2 : 0 ≤ k ∧ k ≤ m
    · have H2 := Lib.hid (fun w => l1In_yes' h2.1 h2.2 w)
      have HI := Lib.hid (specIsShape_any A n c xs w hs hn)
      have HAT := Lib.hid (fun w' (hd : Drawn w w') => l4At_any A n c xs 0 w' (hd.si hs) hn (by omega))
      have hwr : IntKind.i64.wrap (m - k) = m - k := IntWalk.i64_in _ (by omega)
      cases hu : isShapeB xs with
      | false =>
        rw [hu] at HI
        have HF := Lib.hid (boxB_false (xs := xs) (k := k) (m := m) (fun h => by have := isShapeB_true h.2.2.2.2.1; rw [hu] at this; cases this))
        clear hu hs h1 h2
        go_enter Try.func71, Try.ntmps71
        go_wp2_with (first
          | (go_at_call 55; first | ((with_reducible refine (H1.out _).mono ?_); rintro e w1 ⟨rfl, rfl⟩) | ((with_reducible refine (H2.out _).mono ?_); rintro e w1 ⟨rfl, rfl⟩))
          | (go_at_call 15; refine HI.out.mono ?_; rintro e w2 ⟨rfl, hd2⟩; have HD2 := Lib.hid hd2; clear hd2))
        go_ret
        exact ⟨ret_bool HF.out.symm, HD2.out⟩
      | true =>
        rw [hu] at HI
        have hp := isShapeB_P hu
        by_cases h3 : k < (n : Int)
        · have HF := Lib.hid (boxB_false (xs := xs) (k := k) (m := m) (fun h => by have := h.2.2.2.2.2.1; have := HL.out; omega))
          clear hu hs h1 h2 hp
          go_enter Try.func71, Try.ntmps71
          go_wp2_with (first
            | (go_at_call 55; first | ((with_reducible refine (H1.out _).mono ?_); rintro e w1 ⟨rfl, rfl⟩) | ((with_reducible refine (H2.out _).mono ?_); rintro e w1 ⟨rfl, rfl⟩))
            | (go_at_call 15; refine HI.out.mono ?_; rintro e w2 ⟨rfl, hd2⟩; have HD2 := Lib.hid hd2; clear hd2))
          go_ret
          exact ⟨ret_bool HF.out.symm, HD2.out⟩
        · have HV : Hid (boxB xs k m = decide (nth xs 0 ≤ m - k)) := Lib.hid (by
            unfold boxB
            rw [hu, HL.out, decide_eq_true h1.1, decide_eq_true h1.2, decide_eq_true h2.1, decide_eq_true h2.2, decide_eq_true (by omega : (n : Int) ≤ k)]
            simp)
          have h3' : (n : Int) ≤ k := by omega
          obtain ⟨x, hx⟩ : ∃ x, x = nth xs 0 := ⟨_, rfl⟩
          rw [← hx] at HAT HV
          clear hu hs h1 h2 hp hx h3
          go_enter Try.func71, Try.ntmps71
          go_wp2_with (first
            | (go_at_call 55; first | ((with_reducible refine (H1.out _).mono ?_); rintro e w1 ⟨rfl, rfl⟩) | ((with_reducible refine (H2.out _).mono ?_); rintro e w1 ⟨rfl, rfl⟩))
            | (go_at_call 15; refine HI.out.mono ?_; rintro e w2 ⟨rfl, hd2⟩; have HD2 := Lib.hid hd2; clear hd2)
            | (go_at_call 56; refine (HAT.out _ HD2.out).mono ?_; rintro e w3 ⟨rfl, rfl⟩))
          go_ret
          exact ⟨ret_bool HV.out.symm, HD2.out⟩
    · have H2 := Lib.hid (fun w => l1In_no' (a := k) (lo := 0) (hi := m) (by omega) w)
      have HF := Lib.hid (boxB_false (xs := xs) (k := k) (m := m) (fun h => h2 ⟨h.2.2.1, h.2.2.2.1⟩))
      clear hs h1 h2
      go_enter Try.func71, Try.ntmps71
      go_wp2_with (go_at_call 55; first | ((with_reducible refine (H1.out _).mono ?_); rintro e w1 ⟨rfl, rfl⟩) | ((with_reducible refine (H2.out _).mono ?_); rintro e w1 ⟨rfl, rfl⟩))
      go_ret
      exact ⟨ret_bool HF.out.symm, Drawn.refl _⟩
  · have H1 := Lib.hid (fun w => l1In_no' (a := m) (lo := 1) (hi := 7) (by omega) w)
    have HF := Lib.hid (boxB_false (xs := xs) (k := k) (m := m) (fun h => h1 ⟨h.1, h.2.1⟩))
    clear hs h1
    go_enter Try.func71, Try.ntmps71
    go_wp2_with (go_at_call 55; refine (H1.out _).mono ?_; rintro e w1 ⟨rfl, rfl⟩)
    go_ret
    exact ⟨ret_bool HF.out.symm, Drawn.refl _⟩
theorem isBox_any (k m : Int) (w : World) :
    Calls Try.prog 100 #[.int .i64 k, .int .i64 m] w fun e w' => e = .returned (.bool (decide (1 ≤ m ∧ m ≤ 7 ∧ 0 ≤ k ∧ k ≤ m))) ∧ w = w' := by
  by_cases h1 : 1 ≤ m ∧ m ≤ 7
  · have H1 := Lib.hid (fun w => isPermSize_yes h1.1 h1.2 w)
    by_cases h2 : 0 ≤ k
    · rw [show decide (1 ≤ m ∧ m ≤ 7 ∧ 0 ≤ k ∧ k ≤ m) = decide (k ≤ m) by simp [h1.1, h1.2, h2]]
      clear h1
      go_enter Try.func100, Try.ntmps100
      go_wp2_with (go_at_call 107; refine (H1.out _).mono ?_; rintro e w1 ⟨rfl, rfl⟩)
      go_ret
      exact ⟨rfl, rfl⟩
    · rw [decide_eq_false (fun h => h2 h.2.2.1)]
      have h2' : k < 0 := by omega
      clear h1
      go_enter Try.func100, Try.ntmps100
      go_wp2_with (go_at_call 107; refine (H1.out _).mono ?_; rintro e w1 ⟨rfl, rfl⟩)
      go_ret
      exact ⟨rfl, rfl⟩
  · rw [decide_eq_false (fun h => h1 ⟨h.1, h.2.1⟩)]
    have H1 := Lib.hid (fun w => isPermSize_no (a := m) (by omega) w)
    clear h1
    go_enter Try.func100, Try.ntmps100
    go_wp2_with (go_at_call 107; refine (H1.out _).mono ?_; rintro e w1 ⟨rfl, rfl⟩)
    go_ret
    exact ⟨rfl, rfl⟩
set_option maxHeartbeats 1600000 in
theorem fitsInto_any (A : Option Addr) (n c : Nat) (xs : List Int) (k m : Int) (w : World) (hs : SI w A n xs) (hn : n ≤ 1099511627776) :
    Calls Try.prog 73 #[.slice A n c, .int .i64 k, .int .i64 m] w fun e w' => e = .returned (.bool (boxB xs k m)) ∧ Drawn w w' := by
  have HL := Lib.hid hs.1
  have HI := Lib.hid (implIsShape_any A n c xs w hs hn)
  have HB := Lib.hid (fun w => isBox_any k m w)
  cases hu : isShapeB xs with
  | false =>
    rw [hu] at HI
    have HF := Lib.hid (boxB_false (xs := xs) (k := k) (m := m) (fun h => by have := isShapeB_true h.2.2.2.2.1; rw [hu] at this; cases this))
    clear hu hs
    go_enter Try.func73, Try.ntmps73
    go_wp2_with (go_at_call 17; refine HI.out.mono ?_; rintro e w2 ⟨rfl, hd2⟩; have HD2 := Lib.hid hd2; clear hd2)
    go_ret
    exact ⟨ret_bool HF.out.symm, HD2.out⟩
  | true =>
    rw [hu] at HI
    by_cases h1 : 1 ≤ m ∧ m ≤ 7 ∧ 0 ≤ k ∧ k ≤ m
    · rw [decide_eq_true h1] at HB
      by_cases h3 : k < (n : Int)
      · have HF := Lib.hid (boxB_false (xs := xs) (k := k) (m := m) (fun h => by have := h.2.2.2.2.2.1; have := HL.out; omega))
        clear hu hs h1
        go_enter Try.func73, Try.ntmps73
        go_wp2_with (first
          | (go_at_call 17; refine HI.out.mono ?_; rintro e w2 ⟨rfl, hd2⟩; have HD2 := Lib.hid hd2; clear hd2)
          | (go_at_call 100; refine (HB.out _).mono ?_; rintro e w3 ⟨rfl, rfl⟩))
        go_ret
        exact ⟨ret_bool HF.out.symm, HD2.out⟩
      · have h3' : ¬ k < (n : Int) := h3
        have HV : Hid (boxB xs k m = decide (nth xs 0 ≤ m - k)) := Lib.hid (by
            unfold boxB
            rw [hu, HL.out, decide_eq_true h1.1, decide_eq_true h1.2.1, decide_eq_true h1.2.2.1, decide_eq_true h1.2.2.2, decide_eq_true (by omega : (n : Int) ≤ k)]
            simp)
        have hwr : IntKind.i64.wrap (m - k) = m - k := IntWalk.i64_in _ (by omega)
        by_cases h0 : n = 0
        · have HV0 : Hid (boxB xs k m = true) := Lib.hid (by rw [HV.out, nth_out (by rw [HL.out]; omega)]; simp; omega)
          subst h0
          clear hu hs h1 h3
          go_enter Try.func73, Try.ntmps73
          go_wp2_with (first
            | (go_at_call 17; refine HI.out.mono ?_; rintro e w2 ⟨rfl, hd2⟩; have HD2 := Lib.hid hd2; clear hd2)
            | (go_at_call 100; refine (HB.out _).mono ?_; rintro e w3 ⟨rfl, rfl⟩))
          go_ret
          exact ⟨ret_bool HV0.out.symm, HD2.out⟩
        · have h0I : ((n : Int) == 0) = false := by simpa using h0
          obtain ⟨b, o, rfl, hb, hc⟩ := hs.at_ (by omega)
          have hc0 := hc 0 (by omega)
          rw [Nat.add_zero] at hc0
          obtain ⟨x, hx⟩ : ∃ x, x = nth xs 0 := ⟨_, rfl⟩
          rw [← hx] at hc0 HV
          have hnI : (0 : Int) < (n : Int) := by omega
          have HC := Lib.hid hc0
          clear hu hs h1 h3 hc hx h0
          go_enter Try.func73, Try.ntmps73
          go_wp2_with (first
            | (go_at_call 17; refine HI.out.mono ?_; rintro e w2 ⟨rfl, hd2⟩; have HD2 := Lib.hid hd2; have hc2 : w2.cell? ⟨b, o, none⟩ = some (.int .i64 x) := ((hd2.below w.heap.size).cell (p := ⟨b, o, none⟩) hb).trans HC.out; clear hd2)
            | (go_at_call 100; refine (HB.out _).mono ?_; rintro e w3 ⟨rfl, rfl⟩))
          go_ret
          exact ⟨ret_bool HV.out.symm, HD2.out⟩
    · rw [decide_eq_false h1] at HB
      have HF := Lib.hid (boxB_false (xs := xs) (k := k) (m := m) (fun h => h1 ⟨h.1, h.2.1, h.2.2.1, h.2.2.2.1⟩))
      clear hu hs h1
      go_enter Try.func73, Try.ntmps73
      go_wp2_with (first
        | (go_at_call 17; refine HI.out.mono ?_; rintro e w2 ⟨rfl, hd2⟩; have HD2 := Lib.hid hd2; clear hd2)
        | (go_at_call 100; refine (HB.out _).mono ?_; rintro e w3 ⟨rfl, rfl⟩))
      go_ret
      exact ⟨ret_bool HF.out.symm, HD2.out⟩
end Go.Proofs.Ythinbmjcdcmioaa

/-
  The permutation of a shape in a box, on both sides. Conditions: lengths below 2^40.
-/

namespace Go.Proofs.Ythinbmjcdcmioaa
open Go.RowKit

/-- The first i numbers of the permutation. -/
def gF (xs : List Int) (k i : Nat) : List Int := (List.range i).map fun (j : Nat) => (j : Int) + nth xs (k - 1 - j)
theorem gF_len (xs : List Int) (k i : Nat) : (gF xs k i).length = i := by simp [gF]
theorem gF_succ (xs : List Int) (k i : Nat) : gF xs k (i + 1) = gF xs k i ++ [(i : Int) + nth xs (k - 1 - i)] := by simp [gF, List.range_succ]
/-- Those below v that are not among them. -/
def gR (F : List Int) : Nat → List Int
  | 0 => []
  | v + 1 => if hasB F (v : Int) = true then gR F v else gR F v ++ [(v : Int)]
theorem gR_len (F : List Int) : ∀ v, (gR F v).length ≤ v
  | 0 => Nat.le_refl _
  | v + 1 => by
    have := gR_len F v
    unfold gR
    split
    · omega
    · rw [List.length_append]; simp; omega
theorem gR_lt (F : List Int) : ∀ v : Nat, ∀ x ∈ gR F v, x < (v : Int)
  | 0, x, hx => by simp [gR] at hx
  | v + 1, x, hx => by
    unfold gR at hx
    split at hx
    · have := gR_lt F v x hx; omega
    · rcases List.mem_append.1 hx with hx | hx
      · have := gR_lt F v x hx; omega
      · rw [List.mem_singleton.1 hx]; omega
theorem gR_has (F : List Int) (v : Nat) : hasB (F ++ gR F v) (v : Int) = hasB F (v : Int) := by
  unfold hasB
  have h : (v : Int) ∉ gR F v := fun h => absurd (gR_lt F v _ h) (by omega)
  exact decide_eq_decide.2 ⟨fun h' => (List.mem_append.1 h').resolve_right h, fun h' => List.mem_append.2 (.inl h')⟩
def gL (xs : List Int) (k m : Nat) : List Int := gF xs k k ++ gR (gF xs k k) m
/-- What GrassmannianPerm answers. -/
def graPerm (xs : List Int) (k m : Int) : List Int := if boxB xs k m = true then gL xs k.toNat m.toNat else []
theorem graPerm_no {xs : List Int} {k m : Int} (h : boxB xs k m = false) : graPerm xs k m = [] := by unfold graPerm; rw [if_neg (by rw [h]; decide)]
theorem graPerm_yes {xs : List Int} {k m : Nat} (h : boxB xs (k : Int) (m : Int) = true) : graPerm xs (k : Int) (m : Int) = gL xs k m := by unfold graPerm; rw [if_pos h, Int.toNat_natCast, Int.toNat_natCast]
theorem graPerm_small (xs : List Int) (k m : Int) : (graPerm xs k m).length ≤ 1099511627775 := by
  unfold graPerm
  split
  · rename_i h
    have hp := boxB_P h
    have := gR_len (gF xs k.toNat k.toNat) m.toNat
    unfold gL
    rw [List.length_append, gF_len]
    have h1 := hp.2.1; have h2 := hp.2.2.2.1
    omega
  · simp
theorem l4At_at {j : Int} (A : Option Addr) (n c : Nat) (xs : List Int) (i : Nat) (hj : j = (i : Int)) (w : World) (hs : SI w A n xs) (hn : n ≤ 1099511627776) (hi : i ≤ 1099511627776) {x : Int} (hx : x = nth xs i) :
    Calls Try.prog 56 #[.slice A n c, .int .i64 j] w fun e w' => e = .returned (.int .i64 x) ∧ w = w' := by
  subst hj; subst hx; exact l4At_any A n c xs i w hs hn hi
set_option maxHeartbeats 1600000 in
theorem l4Perm_any (A : Option Addr) (n c : Nat) (xs : List Int) (k m : Nat) (w : World) (hs : SI w A n xs) (hp : boxP xs (k : Int) (m : Int)) :
    Calls Try.prog 72 #[.slice A n c, .int .i64 k, .int .i64 m] w fun e w' => Fresh w w' e (gL xs k m) := by
  have hk7 : k ≤ 7 := by have := hp.2.1; have := hp.2.2.2.1; omega
  have hm7 : m ≤ 7 := by have := hp.2.1; omega
  have hl := hs.1
  have hn : n ≤ 7 := by have := hp.2.2.2.2.2.1; omega
  have HR := Lib.hid (shape_range hp.2.2.2.2.1)
  have HS := Lib.hid hs
  clear hs hp hl
  go_enter Try.func72, Try.ntmps72
  go_wp2
  go_loopw [7, 8] (fun ov iv wr => ∃ (i : Nat) (Ao : Option Addr) (co : Nat), i ≤ k ∧ iv = .int .i64 i ∧ ov = .slice Ao i co ∧ Own wr w.heap.size wr.heap.size Ao i co (gF xs k i) ∧ Below w.heap.size w wr)
    (fun _ iv _ => k - (intOf iv).toNat)
  case atStart => exact ⟨0, _, _, Nat.zero_le _, rfl, rfl, (Own.empty w).wide (Nat.le_refl _) (by simp), Below.alloc_self _ _⟩
  case round =>
    obtain ⟨i, Ao, co, hi, rfl, rfl, hown, hbw⟩ := hrel
    have HO := Lib.hid hown
    have HB := Lib.hid hbw
    clear hown hbw
    by_cases hlt : i < k
    · have hiI : (i : Int) < (k : Int) := by omega
      have HSU := Lib.hid (gF_succ xs k i)
      obtain ⟨x, hx⟩ : ∃ x, x = nth xs (k - 1 - i) := ⟨_, rfl⟩
      have HAT := Lib.hid (l4At_at (j := (k : Int) - 1 - (i : Int)) A n c xs (k - 1 - i) (by omega) wr (HS.out.below HB.out (Nat.le_refl _)) (by omega) (by omega) hx)
      have hxr := HR.out (k - 1 - i)
      rw [← hx] at HSU hxr
      obtain ⟨hx0, hx1⟩ := hxr
      have hw1 : IntKind.i64.wrap ((k : Int) - 1) = (k : Int) - 1 := IntWalk.i64_in _ (by omega)
      have hw2 : IntKind.i64.wrap ((k : Int) - 1 - (i : Int)) = (k : Int) - 1 - (i : Int) := IntWalk.i64_in _ (by omega)
      have hw3 : IntKind.i64.wrap ((i : Int) + x) = (i : Int) + x := IntWalk.i64_in _ (by omega)
      clear hx
      go_wp2_with (first
        | (go_at_call 56; refine HAT.out.mono ?_; rintro e w3 ⟨rfl, rfl⟩)
        | (at_builtin; refine wpList_append1 rfl (.tmp 16) (.tmp 25) rfl w.heap.size Ao i co (gF xs k i) ((i : Int) + x) rfl rfl HO.out HB.out.size (by omega) ?_; intro A' c' w5 ho5 _ hb5))
      go_roundw
      case rel => exact ⟨i + 1, _, _, by omega, by go_num, rfl, by rw [HSU.out]; exact ho5, HB.out.trans hb5⟩
      case measure => simp [intOf]; omega
    · have hik : i = k := by omega
      subst hik
      obtain ⟨F, hF⟩ : ∃ F, F = gF xs i i := ⟨_, rfl⟩
      have HFL : Hid (F.length = i) := Lib.hid (by rw [hF, gF_len])
      have HE : Hid (gL xs i m = F ++ gR F m) := Lib.hid (by rw [hF]; rfl)
      rw [← hF] at HO
      clear hF
      go_wp2_with fail
      go_loopw [7, 9] (fun ov vv wx => ∃ (v : Nat) (Ao : Option Addr) (no co : Nat), v ≤ m ∧ vv = .int .i64 v ∧ ov = .slice Ao no co ∧ Own wx w.heap.size wx.heap.size Ao no co (F ++ gR F v) ∧ Below w.heap.size w wx)
        (fun _ vv _ => m - (intOf vv).toNat)
      case atStart => exact ⟨0, Ao, i, co, Nat.zero_le _, rfl, rfl, by simpa [gR] using HO.out, HB.out⟩
      case round =>
        obtain ⟨v, A5, n5, c5, hv, rfl, rfl, hown, hbw⟩ := hrel
        clear HO HB
        have HO := Lib.hid hown
        have HB := Lib.hid hbw
        have hn5 : n5 ≤ 14 := by have h1 := hown.len; rw [List.length_append, HFL.out] at h1; have := gR_len F v; omega
        clear hown hbw
        by_cases hlt2 : v < m
        · have hvI : (v : Int) < (m : Int) := by omega
          have hh := l1Has_any A5 n5 c5 (F ++ gR F v) (v : Int) wr HO.out.si (by omega)
          rw [gR_has] at hh
          have e : gR F (v + 1) = if hasB F (v : Int) = true then gR F v else gR F v ++ [(v : Int)] := rfl
          cases hu : hasB F (v : Int) with
          | true =>
            rw [hu] at hh e
            have HH := Lib.hid hh
            have HG : Hid (gR F (v + 1) = gR F v) := Lib.hid e
            clear hh e hu
            go_wp2_with (go_at_call 99; refine HH.out.mono ?_; rintro e w3 ⟨rfl, hd3⟩; have HD3 := Lib.hid hd3; clear hd3)
            go_roundw
            case rel => exact ⟨v + 1, A5, n5, c5, by omega, by go_num, rfl, by rw [HG.out, HD3.out.heap]; exact HO.out.drawn HD3.out, HB.out.trans (HD3.out.below _)⟩
            case measure => simp [intOf]; omega
          | false =>
            rw [hu] at hh e
            have HH := Lib.hid hh
            have HG : Hid (F ++ gR F (v + 1) = F ++ gR F v ++ [(v : Int)]) := Lib.hid (by rw [e]; simp)
            clear hh e hu
            go_wp2_with (first
              | (go_at_call 99; refine HH.out.mono ?_; rintro e w3 ⟨rfl, hd3⟩
                 have HB3 : Hid (Below w.heap.size w w3) := Lib.hid (HB.out.trans (hd3.below _))
                 have HO3 : Hid (Own w3 w.heap.size w3.heap.size A5 n5 c5 (F ++ gR F v)) := Lib.hid (by rw [hd3.heap]; exact HO.out.drawn hd3)
                 clear hd3)
              | (at_builtin; refine wpList_append1 rfl (.tmp 36) (.tmp 38) rfl w.heap.size A5 n5 c5 (F ++ gR F v) (v : Int) rfl rfl HO3.out HB3.out.size (by omega) ?_; intro A' c' w5 ho5 _ hb5))
            go_roundw
            case rel => exact ⟨v + 1, A', n5 + 1, c', by omega, by go_num, rfl, by rw [HG.out]; exact ho5, HB3.out.trans hb5⟩
            case measure => simp [intOf]; omega
        · have hvm : v = m := by omega
          subst hvm
          go_wp2
          go_ret
          rw [HE.out]
          exact ⟨A5, n5, c5, rfl, HO.out, HB.out⟩
set_option maxHeartbeats 800000 in
theorem specGrass_any (A : Option Addr) (n c : Nat) (xs : List Int) (k m : Int) (w : World) (hs : SI w A n xs) (hn : n ≤ 1099511627776) :
    Calls Try.prog 37 #[.slice A n c, .int .i64 k, .int .i64 m] w fun e w' => Fresh w w' e (graPerm xs k m) := by
  have HI := Lib.hid (l4Box_any A n c xs k m w hs hn)
  cases hu : boxB xs k m with
  | false =>
    rw [hu] at HI
    have HE := Lib.hid (graPerm_no hu)
    clear hu hs
    go_enter Try.func37, Try.ntmps37
    go_wp2_with (go_at_call 71; refine HI.out.mono ?_; rintro e w1 ⟨rfl, hd1⟩)
    go_ret
    rw [HE.out]
    exact Fresh.nil_ret' (hd1.below _)
  | true =>
    rw [hu] at HI
    have hp := boxB_P hu
    obtain ⟨k', rfl⟩ : ∃ k' : Nat, k = k' := ⟨k.toNat, by have := hp.2.2.1; omega⟩
    obtain ⟨m', rfl⟩ : ∃ m' : Nat, m = m' := ⟨m.toNat, by have := hp.1; omega⟩
    have HE := Lib.hid (graPerm_yes hu)
    have HP := Lib.hid (fun w' (hd : Drawn w w') => l4Perm_any A n c xs k' m' w' (hd.si hs) hp)
    clear hu hs hp
    go_enter Try.func37, Try.ntmps37
    go_wp2_with (first
      | (go_at_call 71; refine HI.out.mono ?_; rintro e w1 ⟨rfl, hd1⟩; have HD1 := Lib.hid hd1; clear hd1)
      | (go_at_call 72; refine (HP.out _ HD1.out).mono ?_; rintro e w3 ⟨A3, n3, c3, rfl, ho3, hb3⟩))
    go_ret
    rw [HE.out]
    exact ⟨A3, n3, c3, rfl, ho3.wide (HD1.out.below w.heap.size).size (Nat.le_refl _), (HD1.out.below _).trans (hb3.mono (HD1.out.below w.heap.size).size)⟩
/-- 'make([]int, 0, n)'. -/
theorem wpList_make_cap {ops : Array Oper} {rest : List Oper} {o : Oper} {a : Act} {w : World} {Q : Exit → Act → World → Prop} (hgd : o.guard = none) (l c : Operand) (ho : o.op = .makeSlice 22 l c)
    (n : Nat) (hl : a.eval l = .int .i64 0) (hc : a.eval c = .int .i64 n) (hn : n ≤ 1099511627776)
    (hK : ∀ w', Own w' w.heap.size w'.heap.size (some ⟨w.heap.size, 0, none⟩) 0 n [] → Below w.heap.size w w' → wpList Try.prog ops Q rest (a.put o.dst (.slice (some ⟨w.heap.size, 0, none⟩) 0 n)) w') :
    wpList Try.prog ops Q (o :: rest) a w := by
  obtain ⟨i0, hi, hz0, hz1, hz2⟩ := info_parts Try.infoInt
  refine wpList_make_own w hgd l c 22 ho w.heap.size 3 i0 (.int .i64 0) 1 Try.underlying22 hi hz0 hz1 .i64 .i64 n n hl hc rfl (by rw [hz2]; omega) (by unfold maxLen; omega) (Nat.le_refl _) ?_
  intro w1 ho1 hg1
  exact hK w1 (Own.of (by simpa using ho1)) (grow_below hg1 (Nat.le_refl _) (by intro k hk; cases hk))
set_option maxHeartbeats 800000 in
theorem indexInts_any (A : Option Addr) (n c : Nat) (xs : List Int) (x : Int) (w : World) (hs : SI w A n xs) (hn : n ≤ 1099511627776) :
    Calls Try.prog 101 #[.slice A n c, .int .i64 x] w fun r w' => ∃ i : Int, r = .returned (.int .i64 i) ∧ (0 ≤ i ↔ hasB xs x = true) ∧ Drawn w w' := by
  have HL := Lib.hid hs.1
  go_enter Try.func101, Try.ntmps101
  go_wp2
  go_loopw [8] (fun i wr => ∃ k : Nat, k ≤ n ∧ i = .int .i64 k ∧ Drawn w wr ∧ ∀ j, j < k → nth xs j ≠ x)
    (fun i _ => n - (intOf i).toNat)
  case atStart => exact ⟨0, Nat.zero_le _, rfl, Drawn.refl _, fun j hj => absurd hj (by omega)⟩
  case round =>
    obtain ⟨k, hk, rfl, hD, hall⟩ := hrel
    have HA := Lib.hid hall
    have HDR := Lib.hid hD
    have hs := hD.si hs
    clear hall hD
    by_cases hlt : k < n
    · have hlI : (k : Int) < (n : Int) := by omega
      obtain ⟨b, o, rfl, hb, hc⟩ := hs.at_ (by omega)
      have hc1 := hc k hlt
      obtain ⟨y, hy⟩ : ∃ y, y = nth xs k := ⟨_, rfl⟩
      rw [← hy] at hc1
      have HY := Lib.hid hy
      clear hc hs hy
      by_cases heq : x = y
      · subst heq
        go_wp2
        go_ret
        exact ⟨(k : Int), rfl, ⟨fun _ => by rw [HY.out]; exact hasB_hit (by rw [HL.out]; exact hlt), fun _ => by omega⟩, HDR.out⟩
      · have hb : (x == y) = false := by simpa using heq
        have HN := Lib.hid heq
        clear heq
        go_wp2
        go_roundw
        case rel => exact ⟨k + 1, by omega, by go_num, HDR.out, fun j hj => by
          rcases Nat.lt_or_ge j k with h | h
          · exact HA.out j h
          · obtain rfl : j = k := by omega
            exact fun h => HN.out (by rw [HY.out, h])⟩
        case measure => simp [intOf]; omega
    · have hkn : k = n := by omega
      subst hkn
      go_wp2
      go_ret
      exact ⟨-1, rfl, ⟨fun h => absurd h (by decide), fun h => by rw [hasB_all (by rw [HL.out]; exact HA.out)] at h; cases h⟩, HDR.out⟩
set_option maxHeartbeats 400000 in
theorem containsInts_any (A : Option Addr) (n c : Nat) (xs : List Int) (x : Int) (w : World) (hs : SI w A n xs) (hn : n ≤ 1099511627776) :
    Calls Try.prog 74 #[.slice A n c, .int .i64 x] w fun r w' => r = .returned (.bool (hasB xs x)) ∧ Drawn w w' := by
  have HC := Lib.hid (indexInts_any A n c xs x w hs hn)
  clear hs
  go_enter Try.func74, Try.ntmps74
  go_wp2_with (go_at_call 101; refine HC.out.mono ?_; rintro r w2 ⟨i, rfl, hi, hd⟩; have HI := Lib.hid hi; have HD := Lib.hid hd; clear hi hd)
  go_ret
  refine ⟨ret_bool ?_, HD.out⟩
  have := HI.out
  cases hu : hasB xs x with
  | true => rw [hu] at this; simpa using this.2 rfl
  | false => rw [hu] at this; simp at this ⊢; omega
set_option maxRecDepth 100000 in
set_option maxHeartbeats 1600000 in
theorem implGrass_any (A : Option Addr) (n c : Nat) (xs : List Int) (k m : Int) (w : World) (hs : SI w A n xs) (hn : n ≤ 1099511627776) :
    Calls Try.prog 38 #[.slice A n c, .int .i64 k, .int .i64 m] w fun e w' => Fresh w w' e (graPerm xs k m) := by
  have HI := Lib.hid (fitsInto_any A n c xs k m w hs hn)
  cases hu : boxB xs k m with
  | false =>
    rw [hu] at HI
    have HE := Lib.hid (graPerm_no hu)
    clear hu hs
    go_enter Try.func38, Try.ntmps38
    go_wp2_with (go_at_call 73; refine HI.out.mono ?_; rintro e w1 ⟨rfl, hd1⟩)
    go_ret
    rw [HE.out]
    exact Fresh.nil_ret' (hd1.below _)
  | true =>
    rw [hu] at HI
    have hp := boxB_P hu
    obtain ⟨k', rfl⟩ : ∃ k' : Nat, k = k' := ⟨k.toNat, by have := hp.2.2.1; omega⟩
    obtain ⟨m', rfl⟩ : ∃ m' : Nat, m = m' := ⟨m.toNat, by have := hp.1; omega⟩
    obtain ⟨k, hk0⟩ : ∃ k : Nat, k = k' := ⟨_, rfl⟩
    obtain ⟨m, hm0⟩ : ∃ m : Nat, m = m' := ⟨_, rfl⟩
    subst hk0 hm0
    have HE := Lib.hid (graPerm_yes hu)
    have hk7 : k ≤ 7 := by have := hp.2.1; have := hp.2.2.2.1; omega
    have hm7 : m ≤ 7 := by have := hp.2.1; omega
    have hn16 : n ≤ 16 := by have := hp.2.2.2.2.2.1; have := hs.1; omega
    have HRG := Lib.hid (shape_range hp.2.2.2.2.1)
    have HR := Lib.hid (fun w' (hd : Drawn w w') => rowLengthsOf_any A n c xs w' (hd.si hs) hn16)
    clear hu hs hp
    go_enter Try.func38, Try.ntmps38
    go_upto_region 4 with (first
      | (go_at_call 73; refine HI.out.mono ?_; rintro e w1 ⟨rfl, hd1⟩; have HD1 := Lib.hid hd1; clear hd1)
      | (go_at_call 58; refine (HR.out _ HD1.out).mono ?_; rintro e w3 ⟨rfl, hb3⟩; have HB3 : Hid (Below w.heap.size w w3) := Lib.hid ((HD1.out.below _).trans (hb3.mono (HD1.out.below w.heap.size).size)); clear hb3))
    obtain ⟨w4, hw4⟩ : ∃ w4, w4 = w3.alloc (.cells (arrD (padN 16 xs)) 61) := ⟨_, rfl⟩
    obtain ⟨g, hg⟩ : ∃ g, g = w3.heap.size := ⟨_, rfl⟩
    have HB4 : Hid (Below w.heap.size w w4) := Lib.hid (by rw [hw4]; exact HB3.out.alloc HB3.out.size _)
    have HK4 : Hid (Blk w4 g 61 (arrD (padN 16 xs))) := Lib.hid (by rw [hw4, hg]; exact Blk.new _ _ _)
    have HG4 : Hid (w.heap.size ≤ g) := Lib.hid (by rw [hg]; exact HB3.out.size)
    rw [← hw4, ← hg]
    clear hw4 hg
    generalize arr16 (padN 16 xs) = va
    go_wp2_with (at_make; refine wpList_make_cap rfl (.const (.int .i64 0)) (.tmp 18) rfl m rfl rfl (by omega) ?_; intro w5 ho5 hb5; have HO5 := Lib.hid ho5; have HB5 : Hid (Below w.heap.size w w5) := Lib.hid (HB4.out.trans (hb5.mono HB4.out.size)); have HK5 : Hid (Blk w5 g 61 (arrD (padN 16 xs))) := Lib.hid (HK4.out.below hb5 HK4.out.lt); have HL5 : Hid (g + 1 ≤ w4.heap.size) := Lib.hid HK4.out.lt; clear ho5 hb5)
    obtain ⟨B, hB⟩ : ∃ B, B = w4.heap.size := ⟨_, rfl⟩
    rw [← hB] at HO5 HL5 ⊢
    have HZ5 : Hid (B ≤ w5.heap.size) := Lib.hid (by have := HO5.out.lt B rfl; omega)
    clear hB
    go_loopw [8, 21] (fun ov iv wr => ∃ (i : Nat) (Ao : Option Addr) (co : Nat), i ≤ k ∧ iv = .int .i64 i ∧ ov = .slice Ao i co ∧ Own wr B wr.heap.size Ao i co (gF xs k i) ∧ Below w.heap.size w wr ∧ Blk wr g 61 (arrD (padN 16 xs)) ∧ B ≤ wr.heap.size ∧ (i = k → Ao ≠ none ∨ k = 0) ∧ Ao ≠ none)
      (fun _ iv _ => k - (intOf iv).toNat)
    case atStart => exact ⟨0, _, _, Nat.zero_le _, rfl, rfl, HO5.out, HB5.out, HK5.out, HZ5.out, fun _ => .inl (by simp), by simp⟩
    case round =>
      obtain ⟨i, Ao, co, hi, rfl, rfl, hown, hbw, hkr, hz, _, hne⟩ := hrel
      clear HO5 HB5 HK5 HZ5
      have HO := Lib.hid hown
      have HB := Lib.hid hbw
      have HK := Lib.hid hkr
      have HZ := Lib.hid hz
      have HN := Lib.hid hne
      clear hown hbw hkr hz hne
      by_cases hlt : i < k
      · have hiI : (i : Int) < (k : Int) := by omega
        have HSU := Lib.hid (gF_succ xs k i)
        have hc1 : wr.cell? ⟨g, k - 1 - i, none⟩ = some (.int .i64 (nth xs (k - 1 - i))) := by rw [HK.out.cell, arrD_get _ _ (by omega), padN_nth]
        obtain ⟨x, hx⟩ : ∃ x, x = nth xs (k - 1 - i) := ⟨_, rfl⟩
        have hxr := HRG.out (k - 1 - i)
        rw [← hx] at HSU hxr hc1
        obtain ⟨hx0, hx1⟩ := hxr
        have hw1 : IntKind.i64.wrap ((k : Int) - 1) = (k : Int) - 1 := IntWalk.i64_in _ (by omega)
        have hw2 : IntKind.i64.wrap ((k : Int) - 1 - (i : Int)) = (k : Int) - 1 - (i : Int) := IntWalk.i64_in _ (by omega)
        have hw3 : IntKind.i64.wrap ((i : Int) + x) = (i : Int) + x := IntWalk.i64_in _ (by omega)
        have hi0 : (0 : Int) ≤ (k : Int) - 1 - (i : Int) := by omega
        have hi1 : (k : Int) - 1 - (i : Int) < 16 := by omega
        have hi2 : ((k : Int) - 1 - (i : Int)).toNat = k - 1 - i := by omega
        clear hx
        go_wp2_with (first
          | (at_builtin; refine wpList_append1 rfl (.tmp 24) (.tmp 33) rfl B Ao i co (gF xs k i) ((i : Int) + x) rfl rfl HO.out HZ.out (by omega) ?_; intro A' c' w6 ho6 _ hb6))
        go_roundw
        case rel => exact ⟨i + 1, _, _, by omega, by go_num, rfl, by rw [HSU.out]; exact ho6, HB.out.trans (hb6.mono (by have := HG4.out; have := HL5.out; omega)), HK.out.below hb6 HL5.out, Nat.le_trans HZ.out hb6.size, fun _ => .inl (by obtain ⟨g', e, _⟩ := ho6.place (by omega); rw [e]; simp), by obtain ⟨g', e, _⟩ := ho6.place (by omega); rw [e]; simp⟩
        case measure => simp [intOf]; omega
      · have hik : i = k := by omega
        subst hik
        obtain ⟨F, hF⟩ : ∃ F, F = gF xs i i := ⟨_, rfl⟩
        have HFL : Hid (F.length = i) := Lib.hid (by rw [hF, gF_len])
        have HE2 : Hid (gL xs i m = F ++ gR F m) := Lib.hid (by rw [hF]; rfl)
        rw [← hF] at HO
        clear hF
        go_wp2_with fail
        go_loopw [8, 37] (fun ov vv wx => ∃ (v : Nat) (Ao : Option Addr) (no co : Nat), v ≤ m ∧ vv = .int .i64 v ∧ ov = .slice Ao no co ∧ Own wx B wx.heap.size Ao no co (F ++ gR F v) ∧ Below w.heap.size w wx ∧ B ≤ wx.heap.size ∧ Ao ≠ none)
          (fun _ vv _ => m - (intOf vv).toNat)
        case atStart => exact ⟨0, Ao, i, co, Nat.zero_le _, rfl, rfl, by simpa [gR] using HO.out, HB.out, HZ.out, HN.out⟩
        case round =>
          obtain ⟨v, A5, n5, c5, hv, rfl, rfl, hown, hbw, hz, hne⟩ := hrel
          clear HO HB HK HZ HN
          have HO := Lib.hid hown
          have HB := Lib.hid hbw
          have HZ := Lib.hid hz
          have hlen := hown.len
          rw [List.length_append, HFL.out] at hlen
          have hcap := hown.cap
          have hn5 : n5 ≤ 14 := by have := gR_len F v; omega
          obtain ⟨a5, rfl⟩ : ∃ a5, A5 = some a5 := by cases A5 with | none => exact absurd rfl hne | some a => exact ⟨a, rfl⟩
          clear hown hbw hz hne
          by_cases hlt2 : v < m
          · have hvI : (v : Int) < (m : Int) := by omega
            have hic : (i : Int) ≤ (c5 : Int) := by omega
            have hi0 : (0 : Int) ≤ (i : Int) := by omega
            have hh := containsInts_any (some a5) i c5 F (v : Int) wr (by
              have := HO.out.si.take (k := i) (by omega)
              rwa [List.take_left' HFL.out] at this) (by omega)
            have e : gR F (v + 1) = if hasB F (v : Int) = true then gR F v else gR F v ++ [(v : Int)] := rfl
            cases hu : hasB F (v : Int) with
            | true =>
              rw [hu] at hh e
              have HH := Lib.hid hh
              have HG : Hid (gR F (v + 1) = gR F v) := Lib.hid e
              clear hh e hu
              go_wp2_with (go_at_call 74; refine HH.out.mono ?_; rintro e w7 ⟨rfl, hd3⟩; have HD3 := Lib.hid hd3; clear hd3)
              go_roundw
              case rel => exact ⟨v + 1, some a5, n5, c5, by omega, by go_num, rfl, by rw [HG.out, HD3.out.heap]; exact HO.out.drawn HD3.out, HB.out.trans (HD3.out.below _), by rw [HD3.out.heap]; exact HZ.out, by simp⟩
              case measure => simp [intOf]; omega
            | false =>
              rw [hu] at hh e
              have HH := Lib.hid hh
              have HG : Hid (F ++ gR F (v + 1) = F ++ gR F v ++ [(v : Int)]) := Lib.hid (by rw [e]; simp)
              clear hh e hu
              go_wp2_with (first
                | (go_at_call 74; refine HH.out.mono ?_; rintro e w7 ⟨rfl, hd3⟩
                   have HB3 : Hid (Below w.heap.size w w7) := Lib.hid (HB.out.trans (hd3.below _))
                   have HO3 : Hid (Own w7 B w7.heap.size (some a5) n5 c5 (F ++ gR F v)) := Lib.hid (by rw [hd3.heap]; exact HO.out.drawn hd3)
                   have HZ3 : Hid (B ≤ w7.heap.size) := Lib.hid (by rw [hd3.heap]; exact HZ.out)
                   clear hd3)
                | (at_builtin; refine wpList_append1 rfl (.tmp 46) (.tmp 48) rfl B (some a5) n5 c5 (F ++ gR F v) (v : Int) rfl rfl HO3.out HZ3.out (by omega) ?_; intro A' c' w8 ho8 _ hb8))
              go_roundw
              case rel => exact ⟨v + 1, A', n5 + 1, c', by omega, by go_num, rfl, by rw [HG.out]; exact ho8, HB3.out.trans (hb8.mono (by have := HG4.out; have := HL5.out; omega)), Nat.le_trans HZ3.out hb8.size, by obtain ⟨g', e, _⟩ := ho8.place (by omega); rw [e]; simp⟩
              case measure => simp [intOf]; omega
          · have hvm : v = m := by omega
            subst hvm
            go_wp2
            go_ret
            rw [HE.out, HE2.out]
            exact ⟨some a5, n5, c5, rfl, HO.out.wide (by have := HG4.out; have := HL5.out; omega) (Nat.le_refl _), HB.out⟩
end Go.Proofs.Ythinbmjcdcmioaa

/-
  Contracts of the specification's codes, lengths and descents. Conditions: lengths below 2^40.
-/

namespace Go.Proofs.Ythinbmjcdcmioaa
open Go.RowKit

/-- How many of the places behind i and before j have a smaller number. -/
def codeCnt (xs : List Int) (i : Nat) : Nat → Nat
  | 0 => 0
  | j + 1 => codeCnt xs i j + if i < j ∧ nth xs j < nth xs i then 1 else 0
theorem codeCnt_le (xs : List Int) (i j : Nat) : codeCnt xs i j ≤ j := by
  induction j with
  | zero => exact Nat.le_refl _
  | succ j ih => unfold codeCnt; split <;> omega
theorem codeCnt_low (xs : List Int) (i j : Nat) (h : j ≤ i + 1) : codeCnt xs i j = 0 := by
  induction j with
  | zero => rfl
  | succ j ih => unfold codeCnt; rw [ih (by omega), if_neg (by omega)]
theorem codeCnt_hit {xs : List Int} {i j : Nat} (h : i < j) (hx : nth xs j < nth xs i) : codeCnt xs i (j + 1) = codeCnt xs i j + 1 := by
  show codeCnt xs i j + (if i < j ∧ nth xs j < nth xs i then 1 else 0) = _
  rw [if_pos ⟨h, hx⟩]
theorem codeCnt_miss {xs : List Int} {i j : Nat} (hx : ¬ nth xs j < nth xs i) : codeCnt xs i (j + 1) = codeCnt xs i j := by
  show codeCnt xs i j + (if i < j ∧ nth xs j < nth xs i then 1 else 0) = _
  rw [if_neg (fun h => hx h.2)]; rfl
/-- The code, k places filled. -/
def codeL (xs : List Int) (n k : Nat) : List Int := (List.range n).map fun i => if i < k then (codeCnt xs i n : Int) else 0
theorem codeL_len (xs : List Int) (n k : Nat) : (codeL xs n k).length = n := by simp [codeL]
theorem codeL_nth (xs : List Int) (n k i : Nat) (h : i < n) : nth (codeL xs n k) i = if i < k then (codeCnt xs i n : Int) else 0 := by
  rw [nth_get (by rw [codeL_len]; exact h)]; simp [codeL]
theorem codeL_zero (xs : List Int) (n : Nat) : codeL xs n 0 = List.replicate n 0 := by
  apply List.ext_getElem (by simp [codeL])
  intro j h1 h2; simp [codeL]
theorem codeL_set0 (xs : List Int) (n k : Nat) (_h : k < n) : (codeL xs n k).set k 0 = codeL xs n k := by
  apply List.ext_getElem (by simp)
  intro j h1 h2
  rw [List.getElem_set]
  split
  · rename_i e; subst e; simp [codeL]
  · rfl
theorem codeL_set (xs : List Int) (n k : Nat) (_h : k < n) : (codeL xs n k).set k (codeCnt xs k n : Int) = codeL xs n (k + 1) := by
  apply List.ext_getElem (by simp [codeL])
  intro j h1 h2
  rw [List.getElem_set]
  simp only [codeL, List.getElem_map, List.getElem_range]
  by_cases e : k = j
  · subst e; simp
  · rw [if_neg e]
    by_cases h3 : j < k
    · rw [if_pos h3, if_pos (by omega)]
    · rw [if_neg h3, if_neg (by omega)]

/-- The sum of the first k numbers. -/
def sumN (xs : List Int) : Nat → Int
  | 0 => 0
  | k + 1 => sumN xs k + nth xs k
set_option maxHeartbeats 400000 in
theorem l1Sum_any (A : Option Addr) (n c : Nat) (xs : List Int) (w : World) (hs : SI w A n xs) (hn : n ≤ 1099511627776) (hb : ∀ k, k ≤ n → -1099511627776 ≤ sumN xs k ∧ sumN xs k ≤ 1099511627776) :
    Calls Try.prog 75 #[.slice A n c] w fun e w' => e = .returned (.int .i64 (sumN xs n)) ∧ Drawn w w' := by
  have HBd := Lib.hid hb
  clear hb
  go_enter Try.func75, Try.ntmps75
  go_wp2
  go_loopw [3, 4] (fun v i wr => ∃ k : Nat, k ≤ n ∧ i = .int .i64 k ∧ v = .int .i64 (sumN xs k) ∧ Drawn w wr)
    (fun _ i _ => n - (intOf i).toNat)
  case atStart => exact ⟨0, Nat.zero_le _, rfl, rfl, Drawn.refl _⟩
  case round =>
    obtain ⟨k, hk, rfl, rfl, hD⟩ := hrel
    have hs := hD.si hs
    have HD := Lib.hid hD
    clear hD
    by_cases hlt : k < n
    · obtain ⟨b, o, rfl, hb, hc⟩ := hs.at_ (by omega)
      have hc1 := hc k hlt
      obtain ⟨x, hx⟩ : ∃ x, x = nth xs k := ⟨_, rfl⟩
      obtain ⟨y, hy⟩ : ∃ y, y = sumN xs k := ⟨_, rfl⟩
      have h1 := HBd.out k (by omega)
      have h2 := HBd.out (k + 1) (by omega)
      have e : sumN xs (k + 1) = sumN xs k + nth xs k := rfl
      rw [← hx, ← hy] at e
      rw [e] at h2
      rw [← hy] at h1 ⊢
      rw [← hx] at hc1
      obtain ⟨h21, h22⟩ := h2
      have HE := Lib.hid e
      clear hc hs hx hy e
      go_wp2
      go_roundw
      case rel => exact ⟨k + 1, by omega, by go_num, by rw [HE.out], HD.out⟩
      case measure => simp [intOf]; omega
    · have hkn : k = n := by omega
      subst hkn
      go_wp2
      go_ret
      exact ⟨rfl, HD.out⟩

theorem sumN_code (xs : List Int) (n : Nat) (h7 : n ≤ 7) : ∀ k, k ≤ n → 0 ≤ sumN (codeL xs n n) k ∧ sumN (codeL xs n n) k ≤ 7 * (k : Int) := by
  intro k
  induction k with
  | zero => intro _; exact ⟨Int.le_refl _, by simp [sumN]⟩
  | succ k ih =>
    intro hk
    obtain ⟨h1, h2⟩ := ih (by omega)
    have e : sumN (codeL xs n n) (k + 1) = sumN (codeL xs n n) k + nth (codeL xs n n) k := rfl
    rw [e, codeL_nth _ _ _ _ (by omega), if_pos (by omega)]
    have := codeCnt_le xs k n
    omega
/-- The length of a permutation, by its code. -/
def lenL (xs : List Int) : Int := sumN (codeL xs xs.length xs.length) xs.length
theorem lenL_bounds {xs : List Int} (h7 : xs.length ≤ 7) : 0 ≤ lenL xs ∧ lenL xs ≤ 49 := by
  have := sumN_code xs xs.length h7 xs.length (Nat.le_refl _)
  unfold lenL
  omega
/-- What LengthOf answers. -/
def lenPerm (xs : List Int) : Int := if isPermB xs = true then lenL xs else -1
theorem lenPerm_no {xs : List Int} (h : isPermB xs = false) : lenPerm xs = -1 := by unfold lenPerm; rw [if_neg (by rw [h]; decide)]
theorem lenPerm_yes {xs : List Int} (h : isPermB xs = true) : lenPerm xs = lenL xs := by unfold lenPerm; rw [if_pos h]
/-- What CodeOf answers. -/
def codePerm (xs : List Int) : List Int := if isPermB xs = true then codeL xs xs.length xs.length else []
theorem codePerm_no {xs : List Int} (h : isPermB xs = false) : codePerm xs = [] := by unfold codePerm; rw [if_neg (by rw [h]; decide)]
theorem codePerm_yes {xs : List Int} (h : isPermB xs = true) : codePerm xs = codeL xs xs.length xs.length := by unfold codePerm; rw [if_pos h]
theorem codePerm_small (xs : List Int) : (codePerm xs).length ≤ 1099511627775 := by
  unfold codePerm
  split
  · rename_i h
    rw [codeL_len]; exact isPermB_small h
  · simp
/-- The descents among the first k places. -/
def descL (xs : List Int) : Nat → List Int
  | 0 => []
  | k + 1 => if nth xs (k + 1) < nth xs k then descL xs k ++ [(k : Int)] else descL xs k
theorem descL_len (xs : List Int) (k : Nat) : (descL xs k).length ≤ k := by
  induction k with
  | zero => exact Nat.le_refl _
  | succ k ih =>
    unfold descL
    split
    · simp; omega
    · omega
theorem descL_hit {xs : List Int} {k : Nat} (h : nth xs (k + 1) < nth xs k) : descL xs (k + 1) = descL xs k ++ [(k : Int)] := by
  show (if nth xs (k + 1) < nth xs k then descL xs k ++ [(k : Int)] else descL xs k) = _
  rw [if_pos h]
theorem descL_miss {xs : List Int} {k : Nat} (h : ¬ nth xs (k + 1) < nth xs k) : descL xs (k + 1) = descL xs k := by
  show (if nth xs (k + 1) < nth xs k then descL xs k ++ [(k : Int)] else descL xs k) = _
  rw [if_neg h]
def descPerm (xs : List Int) : List Int := if isPermB xs = true then descL xs (xs.length - 1) else []
theorem descPerm_no {xs : List Int} (h : isPermB xs = false) : descPerm xs = [] := by unfold descPerm; rw [if_neg (by rw [h]; decide)]
theorem descPerm_yes {xs : List Int} (h : isPermB xs = true) : descPerm xs = descL xs (xs.length - 1) := by unfold descPerm; rw [if_pos h]
theorem descPerm_small (xs : List Int) : (descPerm xs).length ≤ 1099511627775 := by
  unfold descPerm
  split
  · rename_i h
    have := descL_len xs (xs.length - 1)
    have := isPermB_small h
    omega
  · simp
set_option maxHeartbeats 800000 in
theorem specDescents_any (A : Option Addr) (n c : Nat) (xs : List Int) (w : World) (hs : SI w A n xs) (hnc : n ≤ c) (hn : n ≤ 1099511627776) :
    Calls Try.prog 67 #[.slice A n c] w fun e w' => Fresh w w' e (descPerm xs) := by
  have hl := hs.1
  cases hu : isPermB xs with
  | false =>
    have HE := Lib.hid (descPerm_no hu)
    have HU := Lib.hid hu
    clear hu
    go_enter Try.func67, Try.ntmps67
    go_wp2_with fail
    refine (specIsPerm_is c HU.out hs hnc hn).mono ?_
    rintro e w1 ⟨rfl, hd1⟩
    go_wp2
    go_ret
    rw [HE.out]
    exact Fresh.nil_ret (hd1.below _)
  | true =>
    have HE := Lib.hid (descPerm_yes hu)
    have HU := Lib.hid hu
    have hpos : 1 ≤ n := by have := (isPermB_P hu).1; omega
    have HL := Lib.hid hl
    clear hu hl
    go_enter Try.func67, Try.ntmps67
    go_wp2_with fail
    refine (specIsPerm_is c HU.out hs hnc hn).mono ?_
    rintro e w1 ⟨rfl, hd1⟩
    have hs1 := hd1.si hs
    have HD := Lib.hid hd1
    clear hs hd1
    go_wp2
    go_loopw [3, 4] (fun v i wr => ∃ (k m : Nat) (A : Option Addr) (c : Nat), k + 1 ≤ n ∧ i = .int .i64 k ∧ v = .slice A m c ∧ Own wr w1.heap.size wr.heap.size A m c (descL xs k) ∧ Below w1.heap.size w1 wr)
      (fun _ i _ => n - (intOf i).toNat)
    case atStart => exact ⟨0, 0, _, _, by omega, rfl, rfl, (Own.empty w1).wide (Nat.le_refl _) (by simp), Below.alloc_self _ _⟩
    case round =>
      obtain ⟨k, m, A0, c0, hk, rfl, rfl, hown, hbel⟩ := hrel
      have HO := Lib.hid hown
      have HB := Lib.hid hbel
      have hm : m ≤ 1099511627775 := by
        have h1 := HO.out.len
        have h2 := descL_len xs k
        have := (isPermB_P HU.out).2.1
        have := HL.out
        omega
      by_cases hlt : k + 1 < n
      · obtain ⟨b, o, e1, hb, hc⟩ := (hs1.below hbel (Nat.le_refl _)).at_ (by omega)
        have hck := hc k (by omega)
        have hck1 := hc (k + 1) hlt
        obtain ⟨x, hx⟩ : ∃ x, x = nth xs k := ⟨_, rfl⟩
        obtain ⟨y, hy⟩ : ∃ y, y = nth xs (k + 1) := ⟨_, rfl⟩
        rw [← hx] at hck
        rw [← hy] at hck1
        have HX := Lib.hid hx
        have HY := Lib.hid hy
        subst e1
        clear hc hx hy hs1 hown hbel
        have hlI : (k : Int) < (n : Int) := by omega
        have hlI1 : (k : Int) + 1 < (n : Int) := by omega
        have hw1 : IntKind.i64.wrap ((k : Int) + 1) = (k : Int) + 1 := IntWalk.i64_in _ (by omega)
        have hn1 : ((k : Int) + 1).toNat = k + 1 := by omega
        have h01 : (0 : Int) ≤ (k : Int) + 1 := by omega
        by_cases hxy : y < x
        · go_wp2_with fail
          go_quiet (fail)
          clear hw1 hn1 h01
          go_wp2_with (at_builtin; refine wpList_append1 rfl (.tmp 26) (.tmp 28) rfl w1.heap.size A0 m c0 (descL xs k) (k : Int) rfl rfl (HO.out.drawn ⟨_, rfl⟩) HB.out.size (by omega) ?_; intro A' c' w3 ho3 _ hb3)
          go_roundw
          case rel =>
            have e1 := HX.out
            have e2 := HY.out
            exact ⟨k + 1, _, _, _, by omega, by go_num, rfl, by rw [descL_hit (by omega)]; exact ho3, (HB.out.drawnN _).trans hb3⟩
          case measure => simp [intOf]; omega
        · go_wp2_with fail
          go_quiet (fail)
          clear hw1 hn1 h01
          go_wp2
          go_roundw
          case rel =>
            have e1 := HX.out
            have e2 := HY.out
            exact ⟨k + 1, _, _, _, by omega, by go_num, rfl, by rw [descL_miss (by omega)]; exact HO.out.drawn ⟨_, rfl⟩, HB.out.drawnN _⟩
          case measure => simp [intOf]; omega
      · have hkn : n = k + 1 := by omega
        subst hkn
        clear hown hbel hs1
        go_wp2
        go_ret
        rw [HE.out, HL.out, Nat.add_sub_cancel]
        exact Fresh.after (HD.out.below _) ⟨A0, _, c0, rfl, HO.out, HB.out⟩
end Go.Proofs.Ythinbmjcdcmioaa

/-
  Contracts of the program's functions on arrays: products, inverses; reversing a slice. Conditions: lengths below 2^40.
-/

namespace Go.Proofs.Ythinbmjcdcmioaa
open Go.RowKit

theorem idxArr (l : List Int) (k : Nat) (h : k < 7) (w : World) : (Instr.index 93 (.agg (arrC l)) (.int .i64 k)).run Try.prog w = .ok (.int .i64 (nth l k)) w := by
  rcases lt7 h with rfl | rfl | rfl | rfl | rfl | rfl | rfl <;> kernel_rfl

def part7 (g h : Nat → Int) (k : Nat) : List Int := (List.range 7).map fun j => if j < k then g j else h j
theorem part7_len (g h : Nat → Int) (k : Nat) : (part7 g h k).length = 7 := by simp [part7]
theorem part7_nth (g h : Nat → Int) (k j : Nat) (hj : j < 7) : nth (part7 g h k) j = if j < k then g j else h j := by
  rw [nth_get (by rw [part7_len]; exact hj)]
  simp [part7]
theorem part7_set (g h : Nat → Int) (k : Nat) (hk : k < 7) : (arrC (part7 g h k)).setIfInBounds k (.int .i64 (g k)) = arrC (part7 g h (k + 1)) := by
  rw [arrC_set _ k hk _ (part7_len _ _ _)]
  congr 1
  apply List.ext_getElem (by simp [part7])
  intro j h1 h2
  rw [List.getElem_set]
  simp only [part7, List.getElem_map, List.getElem_range]
  by_cases e : k = j
  · subst e; simp
  · rw [if_neg e]
    by_cases h3 : j < k
    · rw [if_pos h3, if_pos (by omega)]
    · rw [if_neg h3, if_neg (by omega)]

/-- The product of two arrays. -/
def permTimesL (la lb : List Int) : List Int := part7 (fun j => nth la (nth lb j).toNat) (fun _ => 0) 7

/-! Plain facts on the array of a permutation. -/
theorem fillA_range {xs : List Int} (h : isPermP xs) (k : Nat) (hk : k < 7) : 0 ≤ nth (fillA xs xs.length) k ∧ nth (fillA xs xs.length) k < 7 := by
  have h7 := h.2.1
  rw [fillA_nth _ _ _ hk]
  split
  · rename_i hlt
    have := h.range k hlt
    omega
  · omega
theorem fillA_ge {xs : List Int} {n k : Nat} (h : ¬ k < n) (hk : k < 7) : nth (fillA xs n) k = (k : Int) := by rw [fillA_nth _ _ _ hk, if_neg h]
theorem fillA_lt {xs : List Int} {n k : Nat} (h : k < n) (hk : k < 7) : nth (fillA xs n) k = nth xs k := by rw [fillA_nth _ _ _ hk, if_pos h]

theorem permTimesL_take {us vs : List Int} (_hu : isPermP us) (hv : isPermP vs) (hl : us.length = vs.length) : (permTimesL (fillA us us.length) (fillA vs vs.length)).take vs.length = compL us vs vs.length := by
  have h7 := hv.2.1
  apply List.ext_getElem
  · rw [List.length_take, compL_len]; simp [permTimesL, part7]; omega
  · intro j h1 h2
    have hj : j < vs.length := by rw [compL_len] at h2; exact h2
    have hr := hv.range j hj
    rw [List.getElem_take]
    simp only [permTimesL, part7, compL, List.getElem_map, List.getElem_range]
    rw [if_pos (by omega), fillA_lt hj (by omega), fillA_lt (by omega) (by omega)]

theorem invM_take {xs : List Int} (h : isPermP xs) : (invM (fillA xs xs.length) 7 7).take xs.length = invM xs xs.length xs.length := by
  have h7 := h.2.1
  have key : ∀ k, k ≤ xs.length → (invM (fillA xs xs.length) 7 k).take xs.length = invM xs xs.length k := by
    intro k
    induction k with
    | zero =>
      intro _
      show (List.replicate 7 (0 : Int)).take xs.length = List.replicate xs.length 0
      rw [List.take_replicate, Nat.min_eq_left h7]
    | succ k ih =>
      intro hk
      have hr := h.range k (by omega)
      rw [invM_succ, invM_succ, ← ih (by omega), fillA_lt (by omega) (by omega), List.take_set]
  have key2 : ∀ d, xs.length + d ≤ 7 → (invM (fillA xs xs.length) 7 (xs.length + d)).take xs.length = invM xs xs.length xs.length := by
    intro d
    induction d with
    | zero => intro _; exact key _ (Nat.le_refl _)
    | succ d ih =>
      intro hd
      rw [show xs.length + (d + 1) = (xs.length + d) + 1 from by omega, invM_succ, fillA_ge (by omega) (by omega), List.take_set]
      rw [List.set_eq_of_length_le (by simp [invM_len]; omega)]
      exact ih (by omega)
  have := key2 (7 - xs.length) (by omega)
  rwa [show xs.length + (7 - xs.length) = 7 from by omega] at this
end Go.Proofs.Ythinbmjcdcmioaa

/-
  Contracts of the specification's EmbedPerm, TrimPerm, RankAt. Conditions: lengths below 2^40.
-/


namespace Go.Proofs.Ythinbmjcdcmioaa
open Go.RowKit

set_option maxHeartbeats 400000 in
theorem l1Ints_any (A : Option Addr) (n c : Nat) (xs : List Int) (w : World) (hs : SI w A n xs) (hn : n ≤ 1099511627776) :
    Calls Try.prog 95 #[.slice A n c] w fun e w' => Fresh w w' e xs := by
  go_enter Try.func95, Try.ntmps95
  go_wp2_with (at_builtin; refine wpList_append_all rfl (.tmp 3) (.tmp 4) rfl w.heap.size (some ⟨w.heap.size, 0, none⟩) 0 0 [] A n c xs rfl rfl ((Own.empty w).wide (Nat.le_refl _) (by simp)) (hs.alloc _) (by simp) (by omega) hn ?_; intro A' c' w1 ho1 _ hb1)
  go_ret
  exact ⟨A', _, c', rfl, by simpa using ho1, (Below.alloc_self _ _).trans hb1⟩

theorem fill_take_len {xs : List Int} (h7 : xs.length ≤ 7) : (fillA xs xs.length).take xs.length = xs := by
  apply List.ext_getElem
  · rw [List.length_take, fillA_len]; omega
  · intro j h1 h2
    rw [List.getElem_take]
    simp only [fillA, List.getElem_map, List.getElem_range]
    rw [if_pos h2, nth_get h2]
theorem fill_take_succ {xs : List Int} {k : Nat} (hk : xs.length ≤ k) (h7 : k < 7) : (fillA xs xs.length).take (k + 1) = (fillA xs xs.length).take k ++ [(k : Int)] := by
  rw [take_nth (by rw [fillA_len]; exact h7), fillA_ge (by omega) h7]
theorem fill_take_short {xs : List Int} {k : Nat} (hk : k ≤ xs.length) (h7 : xs.length ≤ 7) : (fillA xs xs.length).take k = xs.take k := by
  have := fill_take_len h7
  rw [← this, List.take_take]
  rw [this, Nat.min_eq_left hk]

/-- What EmbedPerm answers. -/
def embPerm (xs : List Int) (a : Int) : List Int := if isPermB xs = true ∧ (xs.length : Int) ≤ a ∧ a ≤ 7 then (fillA xs xs.length).take a.toNat else []
theorem embPerm_no {xs : List Int} {a : Int} (h : isPermB xs = false ∨ a < (xs.length : Int) ∨ 7 < a) : embPerm xs a = [] := by
  unfold embPerm
  rw [if_neg]
  rintro ⟨h1, h2, h3⟩
  rcases h with h | h | h
  · rw [h1] at h; cases h
  · omega
  · omega
theorem embPerm_yes {xs : List Int} {m : Nat} (h : isPermB xs = true) (h1 : xs.length ≤ m) (h2 : m ≤ 7) : embPerm xs (m : Int) = (fillA xs xs.length).take m := by
  unfold embPerm
  rw [if_pos ⟨h, by omega, by omega⟩, Int.toNat_natCast]
theorem embPerm_small (xs : List Int) (a : Int) : (embPerm xs a).length ≤ 1099511627775 := by
  unfold embPerm
  split
  · rw [List.length_take, fillA_len]; omega
  · simp
/-- How much of a permutation is left. -/
def trimN (xs : List Int) : Nat → Nat
  | 0 => 0
  | k + 1 => if 0 < k ∧ nth xs k = (k : Int) then trimN xs k else k + 1
theorem trimN_hit {xs : List Int} {k : Nat} (h0 : 0 < k) (h : nth xs k = (k : Int)) : trimN xs (k + 1) = trimN xs k := by
  show (if 0 < k ∧ nth xs k = (k : Int) then trimN xs k else k + 1) = _
  rw [if_pos ⟨h0, h⟩]
theorem trimN_miss {xs : List Int} {k : Nat} (h : ¬ (0 < k ∧ nth xs k = (k : Int))) : trimN xs (k + 1) = k + 1 := by
  show (if 0 < k ∧ nth xs k = (k : Int) then trimN xs k else k + 1) = _
  rw [if_neg h]
theorem trimN_le (xs : List Int) (k : Nat) : trimN xs k ≤ k := by
  induction k with
  | zero => exact Nat.le_refl _
  | succ k ih => unfold trimN; split <;> omega
def trimPerm (xs : List Int) : List Int := if isPermB xs = true then xs.take (trimN xs xs.length) else []
theorem trimPerm_no {xs : List Int} (h : isPermB xs = false) : trimPerm xs = [] := by unfold trimPerm; rw [if_neg (by rw [h]; decide)]
theorem trimPerm_yes {xs : List Int} (h : isPermB xs = true) : trimPerm xs = xs.take (trimN xs xs.length) := by unfold trimPerm; rw [if_pos h]
theorem trimPerm_small (xs : List Int) : (trimPerm xs).length ≤ 1099511627775 := by
  unfold trimPerm
  split
  · rename_i h
    have := isPermB_small h
    rw [List.length_take]; omega
  · simp
set_option maxHeartbeats 800000 in
theorem l1Trim_any (A : Option Addr) (n c : Nat) (xs : List Int) (w : World) (hs : SI w A n xs) (hnc : n ≤ c) (h1 : 1 ≤ n) (hn : n ≤ 1099511627776) :
    Calls Try.prog 87 #[.slice A n c] w fun e w' => Fresh w w' e (xs.take (trimN xs n)) := by
  have hl := hs.1
  have HL := Lib.hid hl
  clear hl
  obtain ⟨b, o, rfl, hb, hc⟩ := hs.at_ (by omega)
  have HC := Lib.hid hc
  clear hc
  go_enter Try.func87, Try.ntmps87
  go_wp2
  go_loop [3] (fun v => ∃ k : Nat, k + 1 ≤ n ∧ v = .int .i64 ((k : Int) + 1) ∧ trimN xs (k + 1) = trimN xs n)
    (fun v => (intOf v).toNat)
  case atStart => exact ⟨n - 1, by omega, by go_num, by rw [show n - 1 + 1 = n from by omega]⟩
  case round =>
    obtain ⟨k, hk, rfl, htr⟩ := hrel
    have HT := Lib.hid htr
    have hck := HC.out k (by omega)
    obtain ⟨x, hx⟩ : ∃ x, x = nth xs k := ⟨_, rfl⟩
    rw [← hx] at hck
    have HX := Lib.hid hx
    clear htr hx
    by_cases h0 : 0 < k
    · by_cases hxk : x = (k : Int)
      · subst hxk
        go_wp2
        go_round
        case rel =>
          have e1 := HX.out
          have e2 := HT.out
          rw [trimN_hit h0 e1.symm] at e2
          exact ⟨k - 1, by omega, by go_num, by rw [show k - 1 + 1 = k from by omega]; exact e2⟩
        case measure => simp only [intOf]; omega
      · have hxb : (x == (k : Int)) = false := by simpa using hxk
        have e2 := HT.out
        rw [trimN_miss (by have := HX.out; rintro ⟨_, h⟩; omega)] at e2
        have HT2 := Lib.hid e2
        have hst := hs.take (k := k + 1) (by omega)
        have HX2 := Lib.hid hxk
        clear e2 HT hxk
        go_wp2_with fail
        refine (l1Ints_any _ _ _ _ _ hst (by omega)).mono ?_
        rintro e w3 ⟨A3, n3, c3, rfl, ho3, hb3⟩
        go_wp2
        go_ret
        rw [← HT2.out]
        exact ⟨A3, n3, c3, rfl, ho3, hb3⟩
    · have hk0 : k = 0 := by omega
      subst hk0
      have e2 := HT.out
      rw [trimN_miss (by rintro ⟨h, _⟩; omega)] at e2
      have HT2 := Lib.hid e2
      have hst := hs.take (k := 1) (by omega)
      clear e2 HT
      go_wp2_with fail
      refine (l1Ints_any _ _ _ _ _ hst (by omega)).mono ?_
      rintro e w3 ⟨A3, n3, c3, rfl, ho3, hb3⟩
      go_wp2
      go_ret
      rw [← HT2.out]
      exact ⟨A3, n3, c3, rfl, ho3, hb3⟩
/-- How many of the first k numbers are below c. -/
def rankN (xs : List Int) (c : Int) : Nat → Nat
  | 0 => 0
  | k + 1 => rankN xs c k + if nth xs k < c then 1 else 0
theorem rankN_le (xs : List Int) (c : Int) (k : Nat) : rankN xs c k ≤ k := by
  induction k with
  | zero => exact Nat.le_refl _
  | succ k ih => unfold rankN; split <;> omega
theorem rankN_hit {xs : List Int} {c : Int} {k : Nat} (h : nth xs k < c) : rankN xs c (k + 1) = rankN xs c k + 1 := by
  show rankN xs c k + (if nth xs k < c then 1 else 0) = _
  rw [if_pos h]
theorem rankN_miss {xs : List Int} {c : Int} {k : Nat} (h : ¬ nth xs k < c) : rankN xs c (k + 1) = rankN xs c k := by
  show rankN xs c k + (if nth xs k < c then 1 else 0) = _
  rw [if_neg h]; rfl
theorem rankN_congr {xs ys : List Int} (c : Int) : ∀ k, (∀ t, t < k → nth xs t = nth ys t) → rankN xs c k = rankN ys c k := by
  intro k
  induction k with
  | zero => intro _; rfl
  | succ k ih => intro h; unfold rankN; rw [ih (fun t ht => h t (by omega)), h k (by omega)]
/-- What RankAt answers. -/
def rankPerm (xs : List Int) (r c : Int) : Int := if isPermB xs = true ∧ 0 ≤ r ∧ r ≤ xs.length ∧ 0 ≤ c ∧ c ≤ xs.length then (rankN xs c r.toNat : Int) else -1
theorem rankPerm_no {xs : List Int} {r c : Int} (h : ¬ (isPermB xs = true ∧ 0 ≤ r ∧ r ≤ xs.length ∧ 0 ≤ c ∧ c ≤ xs.length)) : rankPerm xs r c = -1 := by unfold rankPerm; rw [if_neg h]
theorem rankPerm_yes {xs : List Int} {r : Nat} {c : Int} (h : isPermB xs = true) (h1 : (r : Int) ≤ xs.length) (h2 : 0 ≤ c) (h3 : c ≤ xs.length) : rankPerm xs (r : Int) c = (rankN xs c r : Int) := by
  unfold rankPerm; rw [if_pos ⟨h, by omega, h1, h2, h3⟩, Int.toNat_natCast]
end Go.Proofs.Ythinbmjcdcmioaa

/-
  Contracts of the program's ComposePerms and InversePerm. Conditions: lengths below 2^40.
-/

namespace Go.Proofs.Ythinbmjcdcmioaa
open Go.RowKit

/-- arrayOf, whatever the list: an array, and whether it is a permutation's. -/
theorem arrayOf_x {A : Option Addr} {n : Nat} (c : Nat) {xs : List Int} {w : World} {b : Bool} (hb : isPermB xs = b) (hs : SI w A n xs) (hn : n ≤ 1099511627776) :
    Calls Try.prog 96 #[.slice A n c] w fun e w' => ∃ l, e = .returned (.tuple #[arr l, .bool b]) ∧ (b = true → l = fillA xs n) ∧ Below w.heap.size w w' := by
  subst hb
  refine (arrayOf_any A n c xs w hs hn).mono fun e w' ⟨he, hbl⟩ => ?_
  rcases he with ⟨h, he⟩ | ⟨h, he⟩
  · exact ⟨_, by rw [h]; exact he, fun _ => rfl, hbl⟩
  · exact ⟨[0, 0, 0, 0, 0, 0, 0], by rw [h]; exact he, (fun h' => by rw [h] at h'; cases h'), hbl⟩

end Go.Proofs.Ythinbmjcdcmioaa

/-
  Contracts of the program's lengths, codes and descents. Conditions: lengths below 2^40.
-/


namespace Go.Proofs.Ythinbmjcdcmioaa
open Go.RowKit

/-- The inversions of the first k places of an array. -/
def invSum (l : List Int) : Nat → Int
  | 0 => 0
  | k + 1 => invSum l k + (codeCnt l k 7 : Int)
theorem invSum_bounds (l : List Int) (k : Nat) : 0 ≤ invSum l k ∧ invSum l k ≤ 7 * (k : Int) := by
  induction k with
  | zero => exact ⟨Int.le_refl _, by simp [invSum]⟩
  | succ k ih =>
    have e : invSum l (k + 1) = invSum l k + (codeCnt l k 7 : Int) := rfl
    have := codeCnt_le l k 7
    omega
theorem codeCnt_congr {xs ys : List Int} {i : Nat} (hi : nth xs i = nth ys i) : ∀ j, (∀ t, t < j → nth xs t = nth ys t) → codeCnt xs i j = codeCnt ys i j := by
  intro j
  induction j with
  | zero => intro _; rfl
  | succ j ih =>
    intro h
    unfold codeCnt
    rw [ih (fun t ht => h t (by omega)), hi, h j (by omega)]
theorem codeCnt_fill {xs : List Int} (h : isPermP xs) (i : Nat) (hi : i < xs.length) : codeCnt (fillA xs xs.length) i 7 = codeCnt xs i xs.length := by
  have h7 := h.2.1
  have key : ∀ d, xs.length + d ≤ 7 → codeCnt (fillA xs xs.length) i (xs.length + d) = codeCnt xs i xs.length := by
    intro d
    induction d with
    | zero => intro _; exact codeCnt_congr (fillA_lt hi (by omega)) _ (fun t ht => fillA_lt ht (by omega))
    | succ d ih =>
      intro hd
      rw [show xs.length + (d + 1) = (xs.length + d) + 1 from by omega, codeCnt_miss, ih (by omega)]
      rw [fillA_ge (by omega) (by omega), fillA_lt hi (by omega)]
      have := h.range i hi
      omega
  have := key (7 - xs.length) (by omega)
  rwa [show xs.length + (7 - xs.length) = 7 from by omega] at this
theorem codeCnt_fill_ge {xs : List Int} (i : Nat) (hi : ¬ i < xs.length) (h7 : i < 7) : codeCnt (fillA xs xs.length) i 7 = 0 := by
  have key : ∀ d, i + 1 + d ≤ 7 → codeCnt (fillA xs xs.length) i (i + 1 + d) = 0 := by
    intro d
    induction d with
    | zero => intro _; exact codeCnt_low _ _ _ (by omega)
    | succ d ih =>
      intro hd
      rw [show i + 1 + (d + 1) = (i + 1 + d) + 1 from by omega, codeCnt_miss, ih (by omega)]
      rw [fillA_ge (by omega) (by omega), fillA_ge hi (by omega)]
      omega
  have := key (6 - i) (by omega)
  rwa [show i + 1 + (6 - i) = 7 from by omega] at this
theorem invSum_fill {xs : List Int} (h : isPermP xs) : invSum (fillA xs xs.length) 7 = lenL xs := by
  have h7 := h.2.1
  have k1 : ∀ k, k ≤ xs.length → invSum (fillA xs xs.length) k = sumN (codeL xs xs.length xs.length) k := by
    intro k
    induction k with
    | zero => intro _; rfl
    | succ k ih =>
      intro hk
      show invSum _ k + (codeCnt _ k 7 : Int) = sumN _ k + nth _ k
      rw [ih (by omega), codeL_nth _ _ _ _ (by omega), if_pos (by omega), codeCnt_fill h k (by omega)]
  have k2 : ∀ d, xs.length + d ≤ 7 → invSum (fillA xs xs.length) (xs.length + d) = lenL xs := by
    intro d
    induction d with
    | zero => intro _; exact k1 _ (Nat.le_refl _)
    | succ d ih =>
      intro hd
      show invSum _ (xs.length + d) + (codeCnt _ (xs.length + d) 7 : Int) = _
      rw [ih (by omega), codeCnt_fill_ge _ (by omega) (by omega)]
      simp
  have := k2 (7 - xs.length) (by omega)
  rwa [show xs.length + (7 - xs.length) = 7 from by omega] at this

theorem isDescent_fact {x y : Int} : (decide (y < x)) = decide (x > y) := rfl
set_option maxHeartbeats 1000000 in
theorem isDescent_any (l : List Int) (i : Nat) (w : World) (hi : i < 6) :
    Calls Try.prog 97 #[arr l, .int .i64 i] w fun e w' => e = .returned (.bool (decide (nth l (i + 1) < nth l i))) ∧ Below w.heap.size w w' := by
  have hb := Blk.new w 93 (arrC l)
  have hci : (w.alloc (.cells (arrC l) 93)).cell? ⟨w.heap.size, i, none⟩ = some (.int .i64 (nth l i)) := (hb.cell _).trans (arrC_get l i (by omega))
  have hci1 : (w.alloc (.cells (arrC l) 93)).cell? ⟨w.heap.size, i + 1, none⟩ = some (.int .i64 (nth l (i + 1))) := (hb.cell _).trans (arrC_get l (i + 1) (by omega))
  obtain ⟨y, hy⟩ : ∃ y, y = nth l i := ⟨_, rfl⟩
  obtain ⟨x, hx⟩ : ∃ x, x = nth l (i + 1) := ⟨_, rfl⟩
  rw [← hy] at hci ⊢
  rw [← hx] at hci1 ⊢
  clear hx hy hb
  have hw1 : IntKind.i64.wrap ((i : Int) + 1) = (i : Int) + 1 := IntWalk.i64_in _ (by omega)
  have hn1 : ((i : Int) + 1).toNat = i + 1 := by omega
  have h01 : (0 : Int) ≤ (i : Int) + 1 := by omega
  have h7 : (i : Int) < 7 := by omega
  have h71 : (i : Int) + 1 < 7 := by omega
  obtain ⟨b, hbq⟩ : ∃ b, b = decide (x < y) := ⟨_, rfl⟩
  go_enter Try.func97, Try.ntmps97
  go_wp2_with fail
  go_quiet (fail)
  clear hw1 hn1 h01
  go_wp2
  go_ret
  exact ⟨rfl, (Below.alloc_self _ _).drawnN _⟩
end Go.Proofs.Ythinbmjcdcmioaa

/-
  Contracts of the program's descents and of reversing a slice. Conditions: lengths below 2^40.
-/

namespace Go.Proofs.Ythinbmjcdcmioaa
open Go.RowKit

theorem descL_fill {xs : List Int} (h : isPermP xs) : ∀ k, k + 1 ≤ xs.length → descL (fillA xs xs.length) k = descL xs k := by
  have h7 := h.2.1
  intro k
  induction k with
  | zero => intro _; rfl
  | succ k ih =>
    intro hk
    unfold descL
    rw [ih (by omega), fillA_lt (by omega) (by omega), fillA_lt (by omega) (by omega)]

set_option maxHeartbeats 2000000 in
theorem implDescents_any (A : Option Addr) (n c : Nat) (xs : List Int) (w : World) (hs : SI w A n xs) (hn : n ≤ 1099511627776) :
    Calls Try.prog 69 #[.slice A n c] w fun e w' => Fresh w w' e (descPerm xs) := by
  have hl := hs.1
  cases hu : isPermB xs with
  | false =>
    have HE := Lib.hid (descPerm_no hu)
    have HU := Lib.hid hu
    clear hu
    go_enter Try.func69, Try.ntmps69
    go_wp2_with fail
    refine (arrayOf_x c HU.out hs hn).mono ?_
    rintro e w1 ⟨l, rfl, -, hb1⟩
    go_wp2
    go_ret
    rw [HE.out]
    exact Fresh.nil_ret (hb1.alloc hb1.size _)
  | true =>
    have HE := Lib.hid (descPerm_yes hu)
    have HU := Lib.hid hu
    have hpos : 1 ≤ n := by have := (isPermB_P hu).1; omega
    have h7 : n ≤ 7 := by have := (isPermB_P hu).2.1; omega
    clear hu
    go_enter Try.func69, Try.ntmps69
    go_wp2_with fail
    refine (arrayOf_x c HU.out hs hn).mono ?_
    rintro e w1 ⟨l, rfl, hlf, hb1⟩
    have HF := Lib.hid (hlf rfl)
    have HL := Lib.hid hl
    clear hlf hl
    have hK := Blk.new w1 93 (arrC l)
    have hb2 : Below w.heap.size w (w1.alloc (.cells (arrC l) 93)) := hb1.alloc hb1.size _
    go_wp2
    obtain ⟨g, hg⟩ : ∃ g, g = w1.heap.size := ⟨_, rfl⟩
    rw [← hg] at hK ⊢
    generalize w1.alloc (.cells (arrC l) 93) = w2 at *
    have hgl := hK.lt
    clear hg
    go_loopw [5, 17] (fun v i wr => ∃ (k m : Nat) (A : Option Addr) (c : Nat), k + 1 ≤ n ∧ i = .int .i64 k ∧ v = .slice A m c ∧ Blk wr g 93 (arrC l) ∧ Own wr w2.heap.size wr.heap.size A m c (descL l k) ∧ Below w2.heap.size w2 wr)
      (fun _ i _ => n - (intOf i).toNat)
    case atStart => exact ⟨0, 0, none, 0, by omega, rfl, rfl, hK, Own.nil _ _ _, Below.refl _ _⟩
    case round =>
      obtain ⟨k, m, A0, c0, hk, rfl, rfl, hA, hown, hbel⟩ := hrel
      have hm : m ≤ 1099511627775 := by
        have h1 := hown.len
        have h2 := descL_len l k
        omega
      have HA := Lib.hid hA
      have HO := Lib.hid hown
      have HB := Lib.hid hbel
      clear hA hown hbel hK
      by_cases hlt : k + 1 < n
      · have hlI : (k : Int) < (n : Int) - 1 := by omega
        go_wp2_with (first | (refine wpList_load_blk rfl 93 (.tmp 3) rfl g rfl 93 (arrC l) 7 3 HA.out Try.undArr Try.infoArr ?_) | fail)
        refine (isDescent_any l k wr (by omega)).mono ?_
        rintro e w4 ⟨rfl, hb4⟩
        have HA4 := Lib.hid (HA.out.below hb4 HA.out.lt)
        have HO4 := Lib.hid ((HO.out.below hb4 (Nat.le_refl _)).wide (Nat.le_refl _) hb4.size)
        have HB4 := Lib.hid (HB.out.trans (hb4.mono HB.out.size))
        clear hb4
        by_cases hd : nth l (k + 1) < nth l k
        · have hdd : decide (nth l (k + 1) < nth l k) = true := by simpa using hd
          rw [hdd]
          have HD := Lib.hid hd
          clear hd hdd
          go_wp2_with (at_builtin; refine wpList_append1 rfl (.tmp 23) (.tmp 25) rfl w2.heap.size A0 m c0 (descL l k) (k : Int) rfl rfl HO4.out HB4.out.size (by omega) ?_; intro A' c' w5 ho5 _ hb5)
          go_roundw
          case rel => exact ⟨k + 1, _, _, _, by omega, by go_num, rfl, HA4.out.below hb5 hgl, by rw [descL_hit HD.out]; exact ho5, HB4.out.trans hb5⟩
          case measure => simp [intOf]; omega
        · have hdd : decide (nth l (k + 1) < nth l k) = false := by simpa using hd
          rw [hdd]
          have HD := Lib.hid hd
          clear hd hdd
          go_wp2
          go_roundw
          case rel => exact ⟨k + 1, _, _, _, by omega, by go_num, rfl, HA4.out, by rw [descL_miss (by have := HD.out; omega)]; exact HO4.out, HB4.out⟩
          case measure => simp [intOf]; omega
      · have hkn : n = k + 1 := by omega
        subst hkn
        go_wp2
        go_ret
        have e1 := HF.out
        have e2 := HL.out
        have e3 := descL_fill (isPermB_P HU.out) k (by omega)
        have ho := HO.out
        rw [e2] at e3
        rw [e1, e3] at ho
        rw [HE.out, e2, Nat.add_sub_cancel]
        exact Fresh.after hb2 ⟨A0, _, c0, rfl, ho, HB.out⟩

/-- Reversing, k places exchanged from both ends. -/
def revM (xs : List Int) (n k : Nat) : List Int := (List.range n).map fun t => if t < k ∨ n ≤ t + k then nth xs (n - 1 - t) else nth xs t
theorem revM_len (xs : List Int) (n k : Nat) : (revM xs n k).length = n := by simp [revM]
theorem revM_nth (xs : List Int) (n k t : Nat) (h : t < n) : nth (revM xs n k) t = if t < k ∨ n ≤ t + k then nth xs (n - 1 - t) else nth xs t := by
  rw [nth_get (by rw [revM_len]; exact h)]; simp [revM]
theorem revM_zero (xs : List Int) : revM xs xs.length 0 = xs := by
  apply List.ext_getElem (by simp [revM])
  intro j h1 h2
  simp only [revM, List.getElem_map, List.getElem_range]
  rw [if_neg (by omega), nth_get h2]
theorem revM_done (xs : List Int) (k : Nat) (h : xs.length ≤ 2 * k + 1) : revM xs xs.length k = xs.reverse := by
  apply List.ext_getElem (by simp [revM])
  intro j h1 h2
  have hj : j < xs.length := by rw [revM_len] at h1; exact h1
  simp only [revM, List.getElem_map, List.getElem_range, List.getElem_reverse]
  split
  · rw [nth_get (by omega)]
  · rename_i hc
    have e : xs.length - 1 - j = j := by omega
    simp only [e]
    rw [nth_get hj]
theorem revM_step (xs : List Int) (n k : Nat) (h : 2 * k + 1 < n) :
    ((revM xs n k).set k (nth xs (n - 1 - k))).set (n - 1 - k) (nth xs k) = revM xs n (k + 1) := by
  apply List.ext_getElem (by simp [revM])
  intro j h1 h2
  have hj : j < n := by rw [revM_len] at h2; exact h2
  rw [List.getElem_set]
  simp only [revM, List.getElem_map, List.getElem_range]
  by_cases e : n - 1 - k = j
  · rw [if_pos e, if_pos (by omega)]
    rw [show n - 1 - j = k from by omega]
  · rw [if_neg e, List.getElem_set]
    simp only [List.getElem_map, List.getElem_range]
    by_cases e2 : k = j
    · rw [if_pos e2, if_pos (by omega), e2]
    · rw [if_neg e2]
      by_cases h3 : j < k ∨ n ≤ j + k
      · rw [if_pos h3, if_pos (by omega)]
      · rw [if_neg h3, if_neg (by omega)]

theorem idL_reverse (n : Nat) : (idL n).reverse = downL n n := by
  apply List.ext_getElem (by simp [idL, downL])
  intro j h1 h2
  simp only [List.getElem_reverse, idL, downL, List.getElem_map, List.getElem_range, List.length_map, List.length_range]
  have : j < n := by simpa [idL] using h1
  omega

end Go.Proofs.Ythinbmjcdcmioaa

/-
  The shape of a permutation with one descent, on both sides. Conditions: lengths below 2^40.
-/




namespace Go.Proofs.Ythinbmjcdcmioaa
open Go.RowKit

/-- Where the zeros at the end of a list begin. -/
def bareN (xs : List Int) : Nat → Nat
  | 0 => 0
  | k + 1 => if nth xs k = 0 then bareN xs k else k + 1
theorem bareN_le (xs : List Int) : ∀ k, bareN xs k ≤ k
  | 0 => Nat.le_refl _
  | k + 1 => by have := bareN_le xs k; unfold bareN; split <;> omega
theorem bareN_out (xs : List Int) : ∀ k j, bareN xs k ≤ j → j < k → nth xs j = 0
  | 0, j, _, h => absurd h (by omega)
  | k + 1, j, h1, h2 => by
    unfold bareN at h1
    split at h1
    · by_cases hj : j = k
      · subst hj; assumption
      · exact bareN_out xs k j h1 (by omega)
    · omega
theorem bareN_last (xs : List Int) : ∀ k, bareN xs k = 0 ∨ nth xs (bareN xs k - 1) ≠ 0
  | 0 => .inl rfl
  | k + 1 => by
    unfold bareN
    split
    · exact bareN_last xs k
    · right; assumption
set_option maxHeartbeats 800000 in
theorem l4Bare_any (A : Option Addr) (n c : Nat) (xs : List Int) (w : World) (hs : SI w A n xs) (hnc : n ≤ c) (hA : A ≠ none) (hn : n ≤ 1099511627776) :
    Calls Try.prog 68 #[.slice A n c] w fun e w' => Fresh w w' e (xs.take (bareN xs n)) := by
  obtain ⟨a, rfl⟩ : ∃ a, A = some a := by cases A with | none => exact absurd rfl hA | some a => exact ⟨a, rfl⟩
  have HS := Lib.hid hs
  clear hs hA
  go_enter Try.func68, Try.ntmps68
  go_wp2
  go_loopw [3] (fun i wr => ∃ k : Nat, k ≤ n ∧ i = .int .i64 k ∧ Drawn w wr ∧ bareN xs n = bareN xs k)
    (fun i _ => (intOf i).toNat)
  case atStart => exact ⟨n, Nat.le_refl _, rfl, Drawn.refl _, rfl⟩
  case round =>
    obtain ⟨k, hk, rfl, hD, hb⟩ := hrel
    have HB := Lib.hid hb
    have HD := Lib.hid hD
    clear hb hD
    cases k with
    | zero =>
      have HT := Lib.hid (l1Ints_any (some a) 0 c [] wr ⟨rfl, fun h => absurd h (by omega)⟩ (by omega))
      have hc0 : (0 : Int) ≤ (c : Int) := by omega
      go_wp2_with (go_at_call 95; refine HT.out.mono ?_; rintro e w2 ⟨A2, n2, c2, rfl, ho, hb2⟩; have HO := Lib.hid ho; have HB2 := Lib.hid hb2; clear ho hb2)
      go_ret
      rw [HB.out]
      exact ⟨A2, n2, c2, rfl, by show Own _ _ _ _ _ _ (xs.take 0); rw [List.take_zero]; exact HO.out.wide (HD.out.below w.heap.size).size (Nat.le_refl _), (HD.out.below _).trans (HB2.out.mono (HD.out.below w.heap.size).size)⟩
    | succ k =>
      obtain ⟨b, o, e1, hb, hc⟩ := (HD.out.si HS.out).at_ (by omega)
      obtain rfl : a = ⟨b, o, none⟩ := by simpa using e1
      have hc1 := hc k (by omega)
      have e : bareN xs (k + 1) = if nth xs k = 0 then bareN xs k else k + 1 := rfl
      obtain ⟨x, hx⟩ : ∃ x, x = nth xs k := ⟨_, rfl⟩
      rw [← hx] at hc1 e
      have hkI : (k : Int) < (n : Int) := by omega
      have hk0 : (0 : Int) < ((k + 1 : Nat) : Int) := by omega
      have hwk : IntKind.i64.wrap (((k + 1 : Nat) : Int) - 1) = (k : Int) := by rw [show ((k + 1 : Nat) : Int) - 1 = (k : Int) by omega]; exact IntWalk.i64_in _ (by omega)
      clear hc hx e1
      by_cases h0 : x = 0
      · rw [if_pos h0] at e
        have HE := Lib.hid e
        have hb0 : (x == 0) = true := by simpa using h0
        clear e
        go_wp2
        go_roundw
        case rel => exact ⟨k, by omega, by go_num, HD.out, by rw [HB.out, HE.out]⟩
        case measure => simp [intOf]
      · rw [if_neg h0] at e
        have HE := Lib.hid e
        have hb0 : (x == 0) = false := by simpa using h0
        have hic : ((k + 1 : Nat) : Int) ≤ (c : Int) := by omega
        have hi0 : (0 : Int) ≤ ((k + 1 : Nat) : Int) := by omega
        have HT := Lib.hid (l1Ints_any (some ⟨b, o, none⟩) (k + 1) c (xs.take (k + 1)) wr ((HD.out.si HS.out).take (by omega)) (by omega))
        obtain ⟨q, hq⟩ : ∃ q, q = k + 1 := ⟨_, rfl⟩
        rw [← hq] at hk0 hic hi0 hwk hk HE HT HB ⊢
        clear e hq
        go_wp2_with (go_at_call 95; refine HT.out.mono ?_; rintro e w2 ⟨A2, n2, c2, rfl, ho, hb2⟩; have HO := Lib.hid ho; have HB2 := Lib.hid hb2; clear ho hb2)
        go_ret
        rw [HB.out, HE.out]
        exact ⟨A2, n2, c2, rfl, HO.out.wide (HD.out.below w.heap.size).size (Nat.le_refl _), (HD.out.below _).trans (HB2.out.mono (HD.out.below w.heap.size).size)⟩
set_option maxRecDepth 100000 in
set_option maxHeartbeats 800000 in
/-- The rows of an array, up to the first one that is not above 0. -/
theorem rowsShape_any (l : List Int) (w : World) (hl : l.length = 16) :
    Calls Try.prog 70 #[arr16 l] w fun e w' => ∃ q, q ≤ 16 ∧ (∀ j, j < q → 0 < nth l j) ∧ (q = 16 ∨ ¬ 0 < nth l q) ∧ Fresh w w' e (l.take q) := by
  have HL := Lib.hid hl
  obtain ⟨w0, hw0⟩ : ∃ w0, w0 = w.alloc (.cells (arrD l) 61) := ⟨_, rfl⟩
  obtain ⟨g, hg⟩ : ∃ g, g = w.heap.size := ⟨_, rfl⟩
  have HB0 : Hid (Below w.heap.size w w0) := Lib.hid (by rw [hw0]; exact Below.alloc_self _ _)
  have HK0 : Hid (Blk w0 g 61 (arrD l)) := Lib.hid (by rw [hw0, hg]; exact Blk.new _ _ _)
  clear hl
  go_enter Try.func70, Try.ntmps70
  go_upto_region 1 with fail
  rw [← hw0, ← hg]
  clear hw0 hg
  generalize arr16 l = va
  go_wp2
  go_loopw [3] (fun i wr => ∃ k : Nat, k ≤ 16 ∧ i = .int .i64 k ∧ Drawn w0 wr ∧ ∀ j, j < k → 0 < nth l j)
    (fun i _ => 16 - (intOf i).toNat)
  case atStart => exact ⟨0, Nat.zero_le _, rfl, Drawn.refl _, fun j hj => absurd hj (by omega)⟩
  case round =>
    obtain ⟨k, hk, rfl, hD, hall⟩ := hrel
    have HA := Lib.hid hall
    have HD := Lib.hid hD
    have HK := Lib.hid (HK0.out.drawn hD)
    have HBR : Hid (Below w.heap.size w wr) := Lib.hid (HB0.out.trans ((hD.below _).mono HB0.out.size))
    have hcl := clone_any (some ⟨g, 0, none⟩) k 16 (l.take k) wr (SI.of_rows HK.out hk HL.out) (by intro h; cases h) (by omega)
    have HCL := Lib.hid hcl
    have hsl := fun wx => sliceRows_to ⟨g, 0, none⟩ k hk wx
    clear hall hD hcl
    by_cases hlt : k < 16
    · have hkI : (k : Int) < 16 := by omega
      have hc1 : wr.cell? ⟨g, k, none⟩ = some (.int .i64 (nth l k)) := by rw [HK.out.cell, arrD_get _ _ hlt]
      obtain ⟨x, hx⟩ : ∃ x, x = nth l k := ⟨_, rfl⟩
      rw [← hx] at hc1
      have HX := Lib.hid hx
      clear hx
      by_cases h0 : 0 < x
      · clear hsl
        go_wp2
        go_roundw
        case rel => exact ⟨k + 1, by omega, by go_num, HD.out, fun j hj => by
          rcases Nat.lt_or_ge j k with h | h
          · exact HA.out j h
          · obtain rfl : j = k := by omega
            rw [← HX.out]; exact h0⟩
        case measure => simp [intOf]; omega
      · go_wp2_with (go_at_call 98; refine HCL.out.mono ?_; rintro e w2 ⟨A2, n2, c2, rfl, ho, hb2⟩; have HO := Lib.hid ho; have HB2 := Lib.hid hb2; clear ho hb2)
        go_ret
        exact ⟨k, hk, HA.out, .inr (by rw [← HX.out]; exact h0), A2, n2, c2, rfl, HO.out.wide HBR.out.size (Nat.le_refl _), HBR.out.trans (HB2.out.mono HBR.out.size)⟩
    · have hk16 : k = 16 := by omega
      subst hk16
      go_wp2_with (go_at_call 98; refine HCL.out.mono ?_; rintro e w2 ⟨A2, n2, c2, rfl, ho, hb2⟩; have HO := Lib.hid ho; have HB2 := Lib.hid hb2; clear ho hb2)
      go_ret
      exact ⟨16, hk, HA.out, .inl rfl, A2, n2, c2, rfl, HO.out.wide HBR.out.size (Nat.le_refl _), HBR.out.trans (HB2.out.mono HBR.out.size)⟩
/-- A list that nowhere rises and is nowhere below 0: both ways to strike its zeros are one. -/
theorem bare_one {l : List Int} {n q : Nat} (hn : l.length = n) (h0 : ∀ j, 0 ≤ nth l j) (hd : ∀ i j, i ≤ j → nth l j ≤ nth l i) (hq : ∀ j, j < q → 0 < nth l j) (hq' : ¬ 0 < nth l q) : q = bareN l n := by
  have h1 := bareN_le l n
  rcases Nat.lt_trichotomy q (bareN l n) with h | h | h
  · rcases bareN_last l n with h2 | h2
    · omega
    · have := hd q (bareN l n - 1) (by omega)
      have := h0 (bareN l n - 1)
      omega
  · exact h
  · have := hq (bareN l n) h
    by_cases hb : bareN l n < n
    · rw [bareN_out l n _ (Nat.le_refl _) hb] at this; omega
    · rw [nth_out (by omega)] at this; omega
end Go.Proofs.Ythinbmjcdcmioaa

/-
  ShapeOfPerm on both sides. Conditions: lengths below 2^40.
-/


namespace Go.Proofs.Ythinbmjcdcmioaa
open Go.RowKit

/-- The lengths of the rows, of which there are j, of a permutation whose descent is at d. -/
def sopN (xs : List Int) (d j : Nat) : List Int := (List.range j).map fun (t : Nat) => nth xs (d - t) - ((d - t : Nat) : Int)
theorem sopN_len (xs : List Int) (d j : Nat) : (sopN xs d j).length = j := by simp [sopN]
theorem sopN_succ (xs : List Int) (d j : Nat) : sopN xs d (j + 1) = sopN xs d j ++ [nth xs (d - j) - ((d - j : Nat) : Int)] := by simp [sopN, List.range_succ]
theorem sopN_nth {xs : List Int} {d j t : Nat} (h : t < j) : nth (sopN xs d j) t = nth xs (d - t) - ((d - t : Nat) : Int) := by
  rw [nth_get (by rw [sopN_len]; exact h)]; simp [sopN]
def sopOk (xs : List Int) : Bool := decide ((descPerm xs).length = 1)
def sopD (xs : List Int) : Nat := (nth (descPerm xs) 0).toNat
def sopK (xs : List Int) : Int := if sopOk xs = true then (sopD xs : Int) + 1 else 0
def sopS (xs : List Int) : List Int := if sopOk xs = true then (sopN xs (sopD xs) (sopD xs + 1)).take (bareN (sopN xs (sopD xs) (sopD xs + 1)) (sopD xs + 1)) else []
theorem sop_no {xs : List Int} (h : sopOk xs = false) : sopK xs = 0 ∧ sopS xs = [] := by unfold sopK sopS; rw [h]; exact ⟨rfl, rfl⟩
theorem sop_yes {xs : List Int} (h : sopOk xs = true) {d : Nat} (hd : sopD xs = d) : sopK xs = (d : Int) + 1 ∧ sopS xs = (sopN xs d (d + 1)).take (bareN (sopN xs d (d + 1)) (d + 1)) := by subst hd; unfold sopK sopS; rw [h]; exact ⟨rfl, rfl⟩
theorem descL_mem {xs : List Int} : ∀ {n : Nat} {x : Int}, x ∈ descL xs n → ∃ k : Nat, k < n ∧ x = k ∧ nth xs (k + 1) < nth xs k
  | 0, x, h => by simp [descL] at h
  | n + 1, x, h => by
    by_cases hc : nth xs (n + 1) < nth xs n
    · rw [descL_hit hc] at h
      rcases List.mem_append.1 h with h | h
      · obtain ⟨k, h1, h2⟩ := descL_mem h; exact ⟨k, by omega, h2⟩
      · exact ⟨n, by omega, List.mem_singleton.1 h, hc⟩
    · rw [descL_miss hc] at h
      obtain ⟨k, h1, h2⟩ := descL_mem h; exact ⟨k, by omega, h2⟩
theorem descL_all {xs : List Int} : ∀ {n k : Nat}, k < n → nth xs (k + 1) < nth xs k → (k : Int) ∈ descL xs n
  | 0, k, h, _ => absurd h (by omega)
  | n + 1, k, h, hk => by
    by_cases hkn : k = n
    · subst hkn; rw [descL_hit hk]; simp
    · have := descL_all (n := n) (by omega) hk
      by_cases hc : nth xs (n + 1) < nth xs n
      · rw [descL_hit hc]; exact List.mem_append.2 (.inl this)
      · rw [descL_miss hc]; exact this
structure SopF (xs : List Int) (d : Nat) : Prop where
  perm : isPermP xs
  desc : descPerm xs = [(d : Int)]
  lt : d + 1 < xs.length
  up : ∀ i, i < d → nth xs i < nth xs (i + 1)
theorem sop_facts {xs : List Int} (h : sopOk xs = true) : ∃ d, sopD xs = d ∧ SopF xs d := by
  unfold sopOk at h
  have h1 : (descPerm xs).length = 1 := of_decide_eq_true h
  obtain ⟨x, hx⟩ : ∃ x, descPerm xs = [x] := by
    match hd : descPerm xs, h1 with
    | [x], _ => exact ⟨x, rfl⟩
  have hb : isPermB xs = true := by
    cases hb : isPermB xs with
    | true => rfl
    | false => rw [descPerm_no hb] at hx; cases hx
  have hp := isPermB_P hb
  have hdl := hx
  rw [descPerm_yes hb] at hdl
  obtain ⟨d, h2, rfl, h4⟩ := descL_mem (xs := xs) (n := xs.length - 1) (x := x) (by rw [hdl]; simp)
  refine ⟨d, by unfold sopD; rw [hx]; simp [nth], hp, hx, by omega, fun i hi => ?_⟩
  have hne : ¬ nth xs (i + 1) < nth xs i := fun hlt => by
    have := descL_all (xs := xs) (n := xs.length - 1) (k := i) (by omega) hlt
    rw [hdl] at this
    have := List.mem_singleton.1 this
    omega
  have hd : nth xs i ≠ nth xs (i + 1) := fun e => by
    have h5 := (hp.2.2 (i + 1) (by omega)).2.2
    simp only [hasB, decide_eq_false_iff_not] at h5
    apply h5
    rw [← e, ← nth_take (show i < i + 1 by omega), nth_get (by rw [List.length_take]; omega)]
    exact List.getElem_mem _
  omega
theorem sopS_small (xs : List Int) : (sopS xs).length ≤ 1099511627775 := by
  cases hu : sopOk xs with
  | false => rw [(sop_no hu).2]; simp
  | true =>
    obtain ⟨d, hd, hf⟩ := sop_facts hu
    rw [(sop_yes hu hd).2, List.length_take, sopN_len]
    have := hf.lt; have := hf.perm.2.1
    omega
theorem SopF.ge {xs : List Int} {d : Nat} (h : SopF xs d) : ∀ i, i ≤ d → (i : Int) ≤ nth xs i
  | 0, _ => (h.perm.range 0 (by have := h.lt; omega)).1
  | i + 1, hi => by have := h.ge i (by omega); have := h.up i (by omega); omega
theorem SopF.le7 {xs : List Int} {d : Nat} (h : SopF xs d) : d ≤ 5 ∧ ∀ i, i ≤ d → 0 ≤ nth xs i ∧ nth xs i ≤ 6 := by
  have := h.lt; have := h.perm.2.1
  exact ⟨by omega, fun i hi => by have := h.perm.range i (by omega); omega⟩
theorem SopF.nonneg {xs : List Int} {d : Nat} (h : SopF xs d) (j : Nat) : 0 ≤ nth (sopN xs d (d + 1)) j := by
  by_cases hj : j < d + 1
  · rw [sopN_nth hj]; have := h.ge (d - j) (by omega); omega
  · rw [nth_out (by rw [sopN_len]; omega)]; exact Int.le_refl _
theorem SopF.down {xs : List Int} {d : Nat} (h : SopF xs d) : ∀ i j, i ≤ j → nth (sopN xs d (d + 1)) j ≤ nth (sopN xs d (d + 1)) i := by
  have step : ∀ i, nth (sopN xs d (d + 1)) (i + 1) ≤ nth (sopN xs d (d + 1)) i := fun i => by
    by_cases hi : i + 1 < d + 1
    · rw [sopN_nth hi, sopN_nth (by omega)]
      have := h.up (d - (i + 1)) (by omega)
      rw [show d - (i + 1) + 1 = d - i by omega] at this
      omega
    · rw [nth_out (by rw [sopN_len]; omega)]; exact h.nonneg i
  intro i j hij
  induction j with
  | zero => obtain rfl : i = 0 := by omega
            exact Int.le_refl _
  | succ j ih =>
    by_cases hi : i = j + 1
    · subst hi; exact Int.le_refl _
    · exact Int.le_trans (step j) (ih (by omega))
/-- What a call that answers a list, a number and a Bool hands back. -/
def FreshIB (w w' : World) (e : Ending) (ys : List Int) (k : Int) (b : Bool) : Prop :=
  ∃ A n c, e = .returned (.tuple #[.slice A n c, .int .i64 k, .bool b]) ∧ Own w' w.heap.size w'.heap.size A n c ys ∧ Below w.heap.size w w'
theorem FreshIB.nil_ret {w w' : World} (h : Below w.heap.size w w') : FreshIB w w' (.returned (.tuple #[.slice none 0 0, .int .i64 0, .bool false])) [] 0 false := ⟨none, 0, 0, rfl, Own.nil _ _ _, h⟩
set_option maxHeartbeats 1600000 in
theorem specSop_any (A : Option Addr) (n c : Nat) (xs : List Int) (w : World) (hs : SI w A n xs) (hnc : n ≤ c) (hn : n ≤ 1099511627776) :
    Calls Try.prog 35 #[.slice A n c] w fun e w' => FreshIB w w' e (sopS xs) (sopK xs) (sopOk xs) := by
  have HD := Lib.hid (specDescents_any A n c xs w hs hnc hn)
  cases hu : sopOk xs with
  | false =>
    have HE := Lib.hid (sop_no hu)
    have HN : Hid ((descPerm xs).length ≠ 1) := Lib.hid (of_decide_eq_false hu)
    clear hu hs
    go_enter Try.func35, Try.ntmps35
    go_wp2_with (go_at_call 67
                 refine HD.out.mono ?_
                 rintro e w1 ⟨A1, n1, c1, rfl, ho1, hb1⟩
                 have hne : ((n1 : Int) == 1) = false := by have := ho1.len; have := HN.out; simp; omega
                 have HB1 := Lib.hid hb1
                 clear ho1 hb1)
    go_returns
    rw [HE.out.1, HE.out.2]
    exact FreshIB.nil_ret HB1.out
  | true =>
    obtain ⟨d, hd, hf⟩ := sop_facts hu
    have HE := Lib.hid (sop_yes hu hd)
    have HF := Lib.hid hf
    have hd5 := hf.le7.1
    have HR := Lib.hid hf.le7.2
    have hdn : d < n := by have := hf.lt; have := hs.1; omega
    have HDE := Lib.hid hf.desc
    have HS := Lib.hid hs
    clear hu hs hd hf
    go_enter Try.func35, Try.ntmps35
    go_wp2_with (go_at_call 67
                 refine HD.out.mono ?_
                 rintro e w1 ⟨A1, n1, c1, rfl, ho1, hb1⟩
                 rw [HDE.out] at ho1
                 obtain rfl : n1 = 1 := by have := ho1.len; simpa using this.symm
                 obtain ⟨g1, rfl, hg1, hg2⟩ := ho1.place (by omega)
                 have hc1 : w1.cell? ⟨g1, 0, none⟩ = some (.int .i64 d) := ho1.cellAt (k := 0) (by omega)
                 have HB1 := Lib.hid hb1
                 have hwd : IntKind.i64.wrap ((d : Int) + 1) = (d : Int) + 1 := IntWalk.i64_in _ (by omega)
                 have hwd2 : IntKind.i64.wrap ((d : Int) + 1 - 1) = (d : Int) := by rw [show (d : Int) + 1 - 1 = (d : Int) by omega]; exact IntWalk.i64_in _ (by omega)
                 clear ho1 hb1 hg1 hg2)
    go_loopw [7, 8] (fun ov iv wr => ∃ (j : Nat) (Ao : Option Addr) (co : Nat), j ≤ d + 1 ∧ iv = .int .i64 ((d : Int) - (j : Int)) ∧ ov = .slice Ao j co ∧ Own wr w.heap.size wr.heap.size Ao j co (sopN xs d j) ∧ Below w.heap.size w wr ∧ (0 < j → Ao ≠ none))
      (fun _ iv _ => (intOf iv + 1).toNat)
    case atStart => exact ⟨0, _, _, Nat.zero_le _, by first | (simp; done) | (simp [hwd2]), rfl, (Own.empty w1).wide HB1.out.size (by simp), HB1.out.alloc HB1.out.size _, fun h => absurd h (by omega)⟩
    case round =>
      obtain ⟨j, Ao, co, hj, rfl, rfl, hown, hbw, hne⟩ := hrel
      have HO := Lib.hid hown
      have HB := Lib.hid hbw
      have HNE := Lib.hid hne
      clear hown hbw hne hc1
      by_cases hlt : j < d + 1
      · have HSU := Lib.hid (sopN_succ xs d j)
        obtain ⟨i, hi⟩ : ∃ i, i = d - j := ⟨_, rfl⟩
        have hij : (d : Int) - (j : Int) = (i : Int) := by omega
        rw [← hi] at HSU
        rw [hij]
        obtain ⟨b, o, rfl, hb, hc⟩ := (HS.out.below HB.out (Nat.le_refl _)).at_ (by omega)
        have hc1 := hc i (by omega)
        have hr := HR.out i (by omega)
        obtain ⟨x, hx⟩ : ∃ x, x = nth xs i := ⟨_, rfl⟩
        rw [← hx] at hc1 hr HSU
        obtain ⟨hr0, hr1⟩ := hr
        have hw1 : IntKind.i64.wrap (x - (i : Int)) = x - (i : Int) := IntWalk.i64_in _ (by omega)
        have hinI : (i : Int) < (n : Int) := by omega
        have HIE := Lib.hid hi
        have HIJ := Lib.hid hij
        clear hc hx hi hij
        go_wp2_with (at_builtin; refine wpList_append1 rfl (.tmp 25) (.tmp 32) rfl w.heap.size Ao j co (sopN xs d j) (x - (i : Int)) rfl rfl HO.out HB.out.size (by omega) ?_; intro A' c' w5 ho5 _ hb5)
        have HIM : Hid (wrap64 ((i : Int) - 1) = (d : Int) - ((j + 1 : Nat) : Int)) := Lib.hid (by have := HIJ.out; unfold wrap64; omega)
        go_roundw
        case rel => exact ⟨j + 1, A', c', by omega, by first | rw [HIM.out] | rw [show (i : Int) - 1 = (d : Int) - ((j + 1 : Nat) : Int) by have := HIJ.out; omega], rfl, by rw [HSU.out]; exact ho5, HB.out.trans hb5, fun _ => by obtain ⟨g', e, _⟩ := ho5.place (by omega); rw [e]; simp⟩
        case measure => simp only [intOf]; have := HIM.out; have := HIJ.out; omega
      · obtain rfl : j = d + 1 := by omega
        have hneg : (d : Int) - ((d + 1 : Nat) : Int) = -1 := by omega
        rw [hneg]
        have HBA := Lib.hid (l4Bare_any Ao (d + 1) co (sopN xs d (d + 1)) wr HO.out.si HO.out.cap (HNE.out (by omega)) (by omega))
        obtain ⟨q, hq⟩ : ∃ q, q = d + 1 := ⟨_, rfl⟩
        rw [← hq] at HBA HE ⊢
        have HQ := Lib.hid hq
        clear hq
        go_wp2_with (go_at_call 68; refine HBA.out.mono ?_; rintro e w5 ⟨A5, n5, c5, rfl, ho5, hb5⟩; have HO5 := Lib.hid ho5; have HB5 := Lib.hid hb5; clear ho5 hb5)
        go_returns
        rw [HE.out.1, HE.out.2]
        exact ⟨A5, n5, c5, rfl, HO5.out.wide HB.out.size (Nat.le_refl _), HB.out.trans (HB5.out.mono HB.out.size)⟩
/-- The rows when i numbers are taken. -/
def rowP (xs : List Int) (d i : Nat) : List Int := (List.range 16).map fun (t : Nat) => if d < t + i ∧ t ≤ d then nth xs (d - t) - ((d - t : Nat) : Int) else 0
theorem rowP_len (xs : List Int) (d i : Nat) : (rowP xs d i).length = 16 := by simp [rowP]
theorem rowP_nth {xs : List Int} {d i t : Nat} (h : t < 16) : nth (rowP xs d i) t = if d < t + i ∧ t ≤ d then nth xs (d - t) - ((d - t : Nat) : Int) else 0 := by
  rw [nth_get (by rw [rowP_len]; exact h)]; simp [rowP]
theorem rowP_step {xs : List Int} {d i : Nat} (hd : d ≤ 15) (hi : i ≤ d) : (rowP xs d i).set (d - i) (nth xs i - (i : Int)) = rowP xs d (i + 1) := by
  refine list_ext_nth (by simp [rowP_len]) fun k hk => ?_
  have hk' : k < 16 := by simpa [rowP_len] using hk
  rw [nth_set _ (by rw [rowP_len]; omega), rowP_nth hk', rowP_nth hk']
  by_cases h : k = d - i
  · rw [if_pos h, if_pos (by omega), h, show d - (d - i) = i by omega]
  · rw [if_neg h]
    by_cases h2 : d < k + i ∧ k ≤ d
    · rw [if_pos h2, if_pos (by omega)]
    · rw [if_neg h2, if_neg (by omega)]
theorem rowP_zero (xs : List Int) (d : Nat) : arrD (rowP xs d 0) = zero16 := by
  have h : ∀ k, k < 16 → nth (rowP xs d 0) k = 0 := fun k hk => by rw [rowP_nth hk, if_neg (by omega)]
  simp only [arrD, h 0 (by omega), h 1 (by omega), h 2 (by omega), h 3 (by omega), h 4 (by omega), h 5 (by omega), h 6 (by omega), h 7 (by omega), h 8 (by omega), h 9 (by omega), h 10 (by omega), h 11 (by omega), h 12 (by omega), h 13 (by omega), h 14 (by omega), h 15 (by omega)]
theorem rowP_all {xs : List Int} {d : Nat} (hd : d ≤ 15) (k : Nat) : nth (rowP xs d (d + 1)) k = nth (sopN xs d (d + 1)) k := by
  by_cases hk : k < d + 1
  · rw [rowP_nth (by omega), sopN_nth hk, if_pos (by omega)]
  · rw [nth_out (xs := sopN xs d (d + 1)) (by rw [sopN_len]; omega)]
    by_cases h16 : k < 16
    · rw [rowP_nth h16, if_neg (by omega)]
    · rw [nth_out (by rw [rowP_len]; omega)]
theorem load_rows {w : World} {g : Nat} {l : List Int} (h : Blk w g 61 (arrD l)) : (loadVar 61 ⟨g, 0, none⟩).run Try.prog w = .ok (arr16 l) w :=
  run_loadVar_row w g 61 61 (arrD l) (0, 0) _ h Try.undRows rfl (by rw [Try.infoRows]; rfl)
set_option maxRecDepth 100000 in
set_option maxHeartbeats 1600000 in
theorem implSop_any (A : Option Addr) (n c : Nat) (xs : List Int) (w : World) (hs : SI w A n xs) (hn : n ≤ 1099511627776) :
    Calls Try.prog 36 #[.slice A n c] w fun e w' => FreshIB w w' e (sopS xs) (sopK xs) (sopOk xs) := by
  have HD := Lib.hid (implDescents_any A n c xs w hs hn)
  cases hu : sopOk xs with
  | false =>
    have HE := Lib.hid (sop_no hu)
    have HN : Hid ((descPerm xs).length ≠ 1) := Lib.hid (of_decide_eq_false hu)
    clear hu hs
    go_enter Try.func36, Try.ntmps36
    go_wp2_with (go_at_call 69
                 refine HD.out.mono ?_
                 rintro e w1 ⟨A1, n1, c1, rfl, ho1, hb1⟩
                 have hne : ((n1 : Int) == 1) = false := by have := ho1.len; have := HN.out; simp; omega
                 have HB1 := Lib.hid hb1
                 clear ho1 hb1)
    go_returns
    rw [HE.out.1, HE.out.2]
    exact FreshIB.nil_ret HB1.out
  | true =>
    obtain ⟨d, hd, hf⟩ := sop_facts hu
    have HE := Lib.hid (sop_yes hu hd)
    have HF := Lib.hid hf
    have hd5 := hf.le7.1
    have HR := Lib.hid hf.le7.2
    have hdn : d < n := by have := hf.lt; have := hs.1; omega
    have HDE := Lib.hid hf.desc
    have HS := Lib.hid hs
    clear hu hs hd hf
    go_enter Try.func36, Try.ntmps36
    go_upto_region 5 with (first
      | (go_at_call 69
         refine HD.out.mono ?_
         rintro e w1 ⟨A1, n1, c1, rfl, ho1, hb1⟩
         rw [HDE.out] at ho1
         obtain rfl : n1 = 1 := by have := ho1.len; simpa using this.symm
         obtain ⟨g1, rfl, hg1, hg2⟩ := ho1.place (by omega)
         have HC1 : Hid (w1.cell? ⟨g1, 0, none⟩ = some (.int .i64 d)) := Lib.hid (ho1.cellAt (k := 0) (by omega))
         have HB1 := Lib.hid hb1
         have HG2 := Lib.hid hg2
         clear ho1 hb1 hg1 hg2))
    obtain ⟨w2, hw2⟩ : ∃ w2, w2 = w1.alloc (.cells zero16 61) := ⟨_, rfl⟩
    obtain ⟨g, hg⟩ : ∃ g, g = w1.heap.size := ⟨_, rfl⟩
    have HB2 : Hid (Below w.heap.size w w2) := Lib.hid (by rw [hw2]; exact HB1.out.alloc HB1.out.size _)
    have HK2 : Hid (Blk w2 g 61 (arrD (rowP xs d 0))) := Lib.hid (by rw [hw2, hg, rowP_zero]; exact Blk.new _ _ _)
    have HC2 : Hid (w2.cell? ⟨g1, 0, none⟩ = some (.int .i64 d)) := Lib.hid (by rw [hw2]; exact (Below.cell (Below.alloc_self w1 _) (p := ⟨g1, 0, none⟩) HG2.out).trans HC1.out)
    have HG : Hid (g1 < g ∧ w.heap.size ≤ g) := Lib.hid ⟨by rw [hg]; exact HG2.out, by rw [hg]; exact HB1.out.size⟩
    rw [← hw2, ← hg]
    clear hw2 hg
    have hc1 := HC2.out
    have hwd : IntKind.i64.wrap ((d : Int) + 1) = (d : Int) + 1 := IntWalk.i64_in _ (by omega)
    go_wp2_with fail
    clear hc1
    go_loopw [17] (fun iv wr => ∃ i : Nat, i ≤ d + 1 ∧ iv = .int .i64 i ∧ Blk wr g 61 (arrD (rowP xs d i)) ∧ Below w.heap.size w wr ∧ wr.cell? ⟨g1, 0, none⟩ = some (.int .i64 d))
      (fun iv _ => d + 1 - (intOf iv).toNat)
    case atStart => exact ⟨0, Nat.zero_le _, rfl, HK2.out, HB2.out, HC2.out⟩
    case round =>
      obtain ⟨i, hi, rfl, hk, hb, hcd⟩ := hrel
      clear HK2 HB2 HC2
      have HK := Lib.hid hk
      have HB := Lib.hid hb
      have HCD := Lib.hid hcd
      clear hk hb
      by_cases hlt : i < d + 1
      · have hiI : (i : Int) < (d : Int) + 1 := by omega
        obtain ⟨b, o, rfl, hbb, hc⟩ := (HS.out.below HB.out (Nat.le_refl _)).at_ (by omega)
        have hc1 := hc i (by omega)
        have hr := HR.out i (by omega)
        have hstep := rowP_step (xs := xs) (d := d) (i := i) (by omega) (by omega)
        obtain ⟨x, hx⟩ : ∃ x, x = nth xs i := ⟨_, rfl⟩
        rw [← hx] at hc1 hr hstep
        obtain ⟨hr0, hr1⟩ := hr
        obtain ⟨t, ht⟩ : ∃ t, t = d - i := ⟨_, rfl⟩
        rw [← ht] at hstep
        have hti : (d : Int) - (i : Int) = (t : Int) := by omega
        have ht16 : t < 16 := by omega
        have hct : wr.cell? ⟨g, t, none⟩ = some (.int .i64 (nth (rowP xs d i) t)) := by rw [HK.out.cell, arrD_get _ _ ht16]
        have hft := HK.out.frozen t
        obtain ⟨wx, hwx⟩ : ∃ wx, wx = (wr.setCell ⟨g, t, none⟩ (.int .i64 (x - (i : Int)))).drew := ⟨_, rfl⟩
        have HFIN : Hid (Blk wx g 61 (arrD (rowP xs d (i + 1))) ∧ Below w.heap.size w wx ∧ wx.cell? ⟨g1, 0, none⟩ = some (.int .i64 d)) := Lib.hid (by
          rw [hwx]
          have h1 := HK.out.set_ t (.int .i64 (x - (i : Int)))
          rw [arrD_set _ _ ht16 _ (rowP_len _ _ _), hstep] at h1
          exact ⟨h1, (HB.out.setCell HG.out.2 _).drew, (Below.cell ((Below.refl g wr).setCell (p := ⟨g, t, none⟩) (Nat.le_refl _) (.int .i64 (x - (i : Int)))) (p := ⟨g1, 0, none⟩) HG.out.1).trans HCD.out⟩)
        have HWX := Lib.hid hwx
        clear hwx
        have hw1 : IntKind.i64.wrap ((d : Int) - (i : Int)) = (t : Int) := by rw [hti]; exact IntWalk.i64_in _ (by omega)
        have hw2 : IntKind.i64.wrap (x - (i : Int)) = x - (i : Int) := IntWalk.i64_in _ (by omega)
        have ht0 : (t : Int) < 16 := by omega
        have hinI : (i : Int) < (n : Int) := by omega
        clear hc hx hstep ht hti
        go_wp2_with fail
        go_region
        rw [← HWX.out]
        clear hcd hc1 hct hft hw1 hw2
        go_wp2
        go_roundw
        case rel => exact ⟨i + 1, by omega, by go_num, HFIN.out.1, HFIN.out.2.1, HFIN.out.2.2⟩
        case measure => simp [intOf]; omega
      · obtain rfl : i = d + 1 := by omega
        have hzI : ¬ ((d + 1 : Nat) : Int) < (d : Int) + 1 := by omega
        have hg1w : g1 < wr.heap.size := by have := HK.out.lt; have := HG.out.1; omega
        have hq0 : wr.drew.cell? ⟨g1, 0, none⟩ = some (.int .i64 d) := hcd
        have HK5 : Hid (Blk wr.drew g 61 (arrD (rowP xs d (d + 1)))) := Lib.hid HK.out
        obtain ⟨cs, hcs⟩ : ∃ cs : List Value, cs = (arrD (rowP xs d (d + 1))).toList := ⟨_, rfl⟩
        have hca : Value.agg cs.toArray = arr16 (rowP xs d (d + 1)) := by rw [hcs]
        have hcl : cs.length = 16 := by rw [hcs]; rfl
        have hrg : wr.drew.rangeAt g 0 cs := fun j v hj => by
          rw [Nat.zero_add]
          have := HK.out.cell j
          rw [hcs] at hj
          exact this.trans (by simpa using hj)
        have hif : (Try.prog.info? 61).map (·.size) = some cs.length := by rw [hcl]; exact Try.infoRows
        have hun := Try.undRows
        have CA : Calls Try.prog 70 #[.agg cs.toArray] wr.drew fun e w3 => ∃ A3 n3 c3, e = .returned (.slice A3 n3 c3) ∧ (w3.cell? ⟨g1, 0, none⟩ = some (.int .i64 d) ∧ w3.rangeAt g 0 cs) ∧ Hid (Own w3 w.heap.size w3.heap.size A3 n3 c3 ((sopN xs d (d + 1)).take (bareN (sopN xs d (d + 1)) (d + 1)))) ∧ Hid (Below w.heap.size w w3) := by
          rw [hca]
          refine (rowsShape_any _ wr.drew (rowP_len _ _ _)).mono ?_
          rintro e w3 ⟨q, hq16, hqp, hqe, A3, n3, c3, rfl, ho3, hb3⟩
          have hqq : q = bareN (sopN xs d (d + 1)) (d + 1) := bare_one (sopN_len _ _ _) HF.out.nonneg HF.out.down (fun j hj => by rw [← rowP_all (by omega)]; exact hqp j hj) (by
            rcases hqe with h | h
            · subst h; rw [nth_out (by rw [sopN_len]; omega)]; decide
            · rw [← rowP_all (by omega)]; exact h)
          have htk : (rowP xs d (d + 1)).take q = (sopN xs d (d + 1)).take q := by
            have hqd : q ≤ d + 1 := by rw [hqq]; exact bareN_le _ _
            refine list_ext_nth (by rw [List.length_take, List.length_take, rowP_len, sopN_len]; omega) fun k hk => ?_
            have hkq : k < q := by rw [List.length_take] at hk; omega
            rw [nth_take hkq, nth_take hkq, rowP_all (by omega)]
          rw [htk, hqq] at ho3
          exact ⟨A3, n3, c3, rfl, ⟨(Below.cell hb3 (p := ⟨g1, 0, none⟩) hg1w).trans hq0, fun j v hj => (Below.cell hb3 (p := ⟨g, 0 + j, none⟩) HK.out.lt).trans (hrg j v hj)⟩, Lib.hid (ho3.wide HB.out.size (Nat.le_refl _)), Lib.hid (HB.out.drew.trans (hb3.mono HB.out.size))⟩
        have HCA := Lib.hid CA
        have hwd1 : IntKind.i64.wrap ((d : Int) + 1) = (d : Int) + 1 := IntWalk.i64_in _ (by omega)
        clear CA hcs hca hcl
        go_wp2_with fail
        go_region_held3 (fun w' => w'.cell? ⟨g1, 0, none⟩ = some (.int .i64 d) ∧ w'.rangeAt g 0 cs)
          (first | go_keep | exact ⟨hq0, hrg⟩ | exact K5)
          (first
            | (go_at_call 70
               with_reducible refine HCA.out.mono ?_
               rintro e w3 ⟨A3, n3, c3, rfl, K5, ho3, hb3⟩))
        go_wp2
        go_returns
        rw [HE.out.1, HE.out.2]
        exact ⟨A3, n3, c3, rfl, ho3.out, hb3.out⟩
end Go.Proofs.Ythinbmjcdcmioaa

/-
  Hooks of shapes and products of them: plain lemmas; sizes and factorials, on both sides. Conditions: sizes of at most 20.
-/


namespace Go.Proofs.Ythinbmjcdcmioaa
open Go.RowKit

def factN : Nat → Nat
  | 0 => 1
  | n + 1 => (n + 1) * factN n
theorem factN_mono {a b : Nat} (h : a ≤ b) : factN a ≤ factN b := by
  induction b with
  | zero => obtain rfl : a = 0 := by omega
            exact Nat.le_refl _
  | succ b ih =>
    by_cases hab : a = b + 1
    · subst hab; exact Nat.le_refl _
    · have h1 := ih (by omega)
      have h2 : factN (b + 1) = (b + 1) * factN b := rfl
      rw [h2, Nat.succ_mul]
      exact Nat.le_trans h1 (Nat.le_add_left _ _)
theorem fact20 {n : Nat} (h : n ≤ 20) : factN n ≤ 2432902008176640000 := Nat.le_trans (factN_mono h) (by decide)
theorem factN_pos (n : Nat) : 0 < factN n := by
  induction n with
  | zero => decide
  | succ n ih => exact Nat.mul_pos (by omega) ih
/-- The hook of a cell. -/
def hkI (xs : List Int) (i j : Nat) : Int := nth xs i - (j : Int) + cntN xs j xs.length - (i : Int) - 1
def hkN (xs : List Int) (i j : Nat) : Nat := (hkI xs i j).toNat
def rowN (xs : List Int) (i : Nat) : Nat := (nth xs i).toNat
def rowProd (xs : List Int) (i : Nat) : Nat → Nat
  | 0 => 1
  | j + 1 => rowProd xs i j * hkN xs i j
def allProd (xs : List Int) : Nat → Nat
  | 0 => 1
  | i + 1 => allProd xs i * rowProd xs i (rowN xs i)
/-- How many cells stand ahead of a row. -/
def cellsN (xs : List Int) : Nat → Nat
  | 0 => 0
  | i + 1 => cellsN xs i + rowN xs i
theorem cellsN_sum {xs : List Int} (h : ∀ k, 0 ≤ nth xs k) : ∀ i, sumN xs i = (cellsN xs i : Int)
  | 0 => rfl
  | i + 1 => by
    have h1 : sumN xs (i + 1) = sumN xs i + nth xs i := rfl
    have h2 : cellsN xs (i + 1) = cellsN xs i + rowN xs i := rfl
    rw [h1, h2, cellsN_sum h i]
    unfold rowN
    have := h i
    omega
theorem cellsN_mono (xs : List Int) {i j : Nat} (h : i ≤ j) : cellsN xs i ≤ cellsN xs j := by
  induction j with
  | zero => obtain rfl : i = 0 := by omega
            exact Nat.le_refl _
  | succ j ih =>
    by_cases hij : i = j + 1
    · subst hij; exact Nat.le_refl _
    · exact Nat.le_trans (ih (by omega)) (Nat.le_add_right _ _)
/-- Rows that are longer than j: those up to one that is, and no more than there are cells behind it. -/
theorem cnt_low {xs : List Int} (h : isShapeP xs) {i j : Nat} (hi : i < xs.length) (hj : (j : Int) < nth xs i) : ∀ k, k ≤ i + 1 → cntN xs j k = (k : Int) := by
  have hd : ∀ d k, k + d = i → nth xs i ≤ nth xs k := by
    intro d
    induction d with
    | zero => intro k hk; obtain rfl : k = i := by omega
              exact Int.le_refl _
    | succ d ih =>
      intro k hk
      have h1 := ih (k + 1) (by omega)
      have h2 : nth xs (k + 1) ≤ nth xs k := (h.2 (k + 1) (by omega)).2
      omega
  intro k
  induction k with
  | zero => intro _; rfl
  | succ k ih =>
    intro hk
    have h1 := ih (by omega)
    have h2 := hd (i - k) k (by omega)
    show (if (j : Int) < nth xs k then cntN xs j k + 1 else cntN xs j k) = _
    rw [if_pos (by omega), h1]; omega
theorem cnt_up {xs : List Int} (h : ∀ k, 0 ≤ nth xs k) (j a : Nat) : ∀ k, a ≤ k → cntN xs j k ≤ cntN xs j a + ((cellsN xs k : Int) - cellsN xs a) ∧ cntN xs j a ≤ cntN xs j k := by
  intro k
  induction k with
  | zero => intro hk; obtain rfl : a = 0 := by omega
            omega
  | succ k ih =>
    intro hk
    by_cases hak : a = k + 1
    · subst hak; omega
    · have h1 := ih (by omega)
      have h2 : cellsN xs (k + 1) = cellsN xs k + rowN xs k := rfl
      have h3 := h k
      have h4 : cntN xs j (k + 1) = if (j : Int) < nth xs k then cntN xs j k + 1 else cntN xs j k := rfl
      unfold rowN at h2
      rw [h4, h2]
      split <;> omega
theorem hook_bnd {xs : List Int} (h : isShapeP xs) {i j : Nat} (hi : i < xs.length) (hj : (j : Int) < nth xs i) :
    1 ≤ hkI xs i j ∧ hkI xs i j ≤ (cellsN xs xs.length : Int) - cellsN xs i - j := by
  have h1 := cnt_low h hi hj (i + 1) (Nat.le_refl _)
  have h2 := cnt_up (fun k => (shape_range h k).1) j (i + 1) xs.length (by omega)
  have h3 : cellsN xs (i + 1) = cellsN xs i + rowN xs i := rfl
  unfold rowN at h3
  unfold hkI
  omega
theorem prod_bnd {xs : List Int} (h : isShapeP xs) : ∀ i, i ≤ xs.length → (∀ j, j ≤ rowN xs i → i < xs.length → 0 < allProd xs i * rowProd xs i j ∧ allProd xs i * rowProd xs i j * factN (cellsN xs xs.length - (cellsN xs i + j)) ≤ factN (cellsN xs xs.length)) ∧ (0 < allProd xs i ∧ allProd xs i * factN (cellsN xs xs.length - cellsN xs i) ≤ factN (cellsN xs xs.length)) := by
  intro i
  induction i with
  | zero =>
    intro _
    have base : 0 < allProd xs 0 ∧ allProd xs 0 * factN (cellsN xs xs.length - cellsN xs 0) ≤ factN (cellsN xs xs.length)   := ⟨Nat.one_pos, by show 1 * factN (cellsN xs xs.length - 0) ≤ _; rw [Nat.one_mul]; exact Nat.le_refl _⟩
    exact ⟨fun j hj hi => rowstep h hi base j hj, base⟩
  | succ i ih =>
    intro hi
    have h1 := (ih (by omega)).1 (rowN xs i) (Nat.le_refl _) (by omega)
    have base : 0 < allProd xs (i + 1) ∧ allProd xs (i + 1) * factN (cellsN xs xs.length - cellsN xs (i + 1)) ≤ factN (cellsN xs xs.length) := h1
    exact ⟨fun j hj hi => rowstep h hi base j hj, base⟩
where
  rowstep {xs : List Int} (h : isShapeP xs) {i : Nat} (hi : i < xs.length) (base : 0 < allProd xs i ∧ allProd xs i * factN (cellsN xs xs.length - cellsN xs i) ≤ factN (cellsN xs xs.length)) : ∀ j, j ≤ rowN xs i → 0 < allProd xs i * rowProd xs i j ∧ allProd xs i * rowProd xs i j * factN (cellsN xs xs.length - (cellsN xs i + j)) ≤ factN (cellsN xs xs.length) := by
    intro j
    induction j with
    | zero => intro _; show 0 < allProd xs i * 1 ∧ allProd xs i * 1 * _ ≤ _; rw [Nat.mul_one]; exact base
    | succ j ih =>
      intro hj
      have hjx : (j : Int) < nth xs i := by unfold rowN at hj; omega
      obtain ⟨b1, b2⟩ := hook_bnd h hi hjx
      obtain ⟨p1, p2⟩ := ih (by omega)
      have hs : cellsN xs i + rowN xs i ≤ cellsN xs xs.length := cellsN_mono xs (i := i + 1) (by omega)
      obtain ⟨r, hr⟩ : ∃ r, cellsN xs xs.length - (cellsN xs i + j) = r + 1 := ⟨cellsN xs xs.length - (cellsN xs i + j) - 1, by omega⟩
      have hr2 : cellsN xs xs.length - (cellsN xs i + (j + 1)) = r := by omega
      rw [hr] at p2
      rw [hr2]
      have hk1 : 1 ≤ hkN xs i j := by unfold hkN; omega
      have hk2 : hkN xs i j ≤ r + 1 := by unfold hkN; omega
      have e : allProd xs i * rowProd xs i (j + 1) = allProd xs i * rowProd xs i j * hkN xs i j := by show allProd xs i * (rowProd xs i j * hkN xs i j) = _; rw [Nat.mul_assoc]
      rw [e]
      refine ⟨Nat.mul_pos p1 hk1, Nat.le_trans ?_ p2⟩
      rw [Nat.mul_assoc]
      exact Nat.mul_le_mul_left _ (Nat.mul_le_mul_right _ hk2)
/-- How many standard tableaux: the factorial, divided by the hooks. -/
def stdN (xs : List Int) : Nat := factN (cellsN xs xs.length) / allProd xs xs.length
def stdOk (xs : List Int) : Bool := isShapeB xs && decide (sumN xs xs.length ≤ 20)
def stdCount (xs : List Int) : Int := if stdOk xs = true then (stdN xs : Int) else -1
set_option maxHeartbeats 400000 in
theorem l1Factorial_any (n : Nat) (w : World) (h : n ≤ 20) :
    Calls Try.prog 76 #[.int .i64 n] w fun e w' => e = .returned (.int .i64 (factN n : Nat)) ∧ w = w' := by
  go_enter Try.func76, Try.ntmps76
  go_wp2
  go_loopw [3, 4] (fun pv iv wr => ∃ k : Nat, 2 ≤ k ∧ (k ≤ n + 1 ∨ k = 2) ∧ iv = .int .i64 k ∧ pv = .int .i64 (factN (k - 1) : Nat) ∧ Drawn w wr ∧ w = wr)
    (fun _ iv _ => n + 2 - (intOf iv).toNat)
  case atStart => exact ⟨2, by omega, .inr rfl, rfl, rfl, Drawn.refl _, rfl⟩
  case round =>
    obtain ⟨k, hk2, hk, rfl, rfl, _, rfl⟩ := hrel
    by_cases hlt : k ≤ n
    · have hkI : (k : Int) ≤ (n : Int) := by omega
      obtain ⟨m, rfl⟩ : ∃ m, k = m + 1 := ⟨k - 1, by omega⟩
      have e : factN (m + 1) = (m + 1) * factN m := rfl
      have hb := fact20 (n := m + 1) (by omega)
      have hz : ((m + 1 - 1 : Nat)) = m := by omega
      rw [hz]
      obtain ⟨f, hf⟩ : ∃ f, f = factN m := ⟨_, rfl⟩
      rw [← hf] at e ⊢
      rw [e] at hb
      have HE : Hid (factN (m + 1 + 1 - 1) = (m + 1) * f) := Lib.hid (by rw [show m + 1 + 1 - 1 = m + 1 by omega]; exact e)
      have hwr : IntKind.i64.wrap ((f : Int) * ((m + 1 : Nat) : Int)) = (((m + 1) * f : Nat) : Int) := by
        rw [← Int.natCast_mul, Nat.mul_comm]; exact IntWalk.i64_in _ (by omega)
      obtain ⟨q, hq⟩ : ∃ q, q = (m + 1) * f := ⟨_, rfl⟩
      obtain ⟨k1, hk1⟩ : ∃ k1, k1 = m + 1 := ⟨_, rfl⟩
      rw [← hq] at hwr HE
      rw [← hk1] at hwr HE hkI hk hk2 ⊢
      have hk20 : k1 ≤ 20 := by omega
      clear e hb hf hq hz hk1
      go_wp2
      go_roundw
      case rel => exact ⟨k1 + 1, by omega, .inl (by omega), by go_num, by rw [HE.out], Drawn.refl _, by trivial⟩
      case measure => simp [intOf]; omega
    · have hkI : ¬ (k : Int) ≤ (n : Int) := by omega
      have HE : Hid (factN (k - 1) = factN n) := Lib.hid (by
        rcases hk with h | h
        · rw [show k - 1 = n by omega]
        · subst h
          rcases (by omega : n = 0 ∨ n = 1) with rfl | rfl <;> rfl)
      go_wp2
      go_ret
      exact ⟨by rw [HE.out]; rfl, by trivial⟩
end Go.Proofs.Ythinbmjcdcmioaa

/-
  How many standard tableaux a shape has, on both sides. Conditions: lengths below 2^40.
-/

namespace Go.Proofs.Ythinbmjcdcmioaa
open Go.RowKit

theorem stdOk_no {xs : List Int} (h : stdOk xs = false) : stdCount xs = -1 := by unfold stdCount; rw [h]; rfl
theorem stdOk_yes {xs : List Int} (h : stdOk xs = true) : stdCount xs = (stdN xs : Int) := by unfold stdCount; rw [h]; rfl
theorem sum_bnd {xs : List Int} (h : isShapeP xs) (k : Nat) (hk : k ≤ 16) : 0 ≤ sumN xs k ∧ sumN xs k ≤ 16 * (k : Int) := by
  induction k with
  | zero => exact ⟨Int.le_refl _, Int.le_refl _⟩
  | succ k ih =>
    have h1 := ih (by omega)
    have h2 := shape_range h k
    have e : sumN xs (k + 1) = sumN xs k + nth xs k := rfl
    rw [e]; omega
theorem tdiv_nat (a b : Nat) : Int.tdiv (a : Int) (b : Int) = ((a / b : Nat) : Int) := by rw [Int.tdiv_eq_ediv_of_nonneg (by omega)]; rfl
set_option maxRecDepth 100000 in
set_option maxHeartbeats 2000000 in
theorem specStd_any (A : Option Addr) (n c : Nat) (xs : List Int) (w : World) (hs : SI w A n xs) (hn : n ≤ 1099511627776) :
    Calls Try.prog 39 #[.slice A n c] w fun e w' => e = .returned (.int .i64 (stdCount xs)) ∧ Below w.heap.size w w' := by
  have HI := Lib.hid (specIsShape_any A n c xs w hs hn)
  cases hsh : isShapeB xs with
  | false =>
    rw [hsh] at HI
    have HE := Lib.hid (stdOk_no (xs := xs) (by unfold stdOk; rw [hsh]; rfl))
    clear hsh hs
    go_enter Try.func39, Try.ntmps39
    go_wp2_with (go_at_call 15; refine HI.out.mono ?_; rintro e w1 ⟨rfl, hd1⟩)
    go_ret
    exact ⟨by rw [HE.out]; rfl, hd1.below _⟩
  | true =>
    rw [hsh] at HI
    have hp := isShapeB_P hsh
    have hl := hs.1
    have HP := Lib.hid hp
    have h16 : n ≤ 16 := by have := hp.1; omega
    have HSM := Lib.hid (fun w' (hd : Below w.heap.size w w') => l1Sum_any A n c xs w' (hs.below hd (Nat.le_refl _)) hn (fun k hk => by have := sum_bnd hp k (by omega); omega))
    by_cases h20 : 20 < sumN xs n
    · have HE := Lib.hid (stdOk_no (xs := xs) (by unfold stdOk; rw [decide_eq_false (by rw [hl]; omega), Bool.and_false]))
      obtain ⟨s, hs0⟩ : ∃ s, s = sumN xs n := ⟨_, rfl⟩
      rw [← hs0] at HSM h20
      clear hsh hs hp hl hs0
      go_enter Try.func39, Try.ntmps39
      go_wp2_with (first
        | (go_at_call 15; refine HI.out.mono ?_; rintro e w1 ⟨rfl, hd1⟩; have HD1 := Lib.hid (hd1.below w.heap.size); clear hd1)
        | (go_at_call 75; refine (HSM.out _ HD1.out).mono ?_; rintro e w2 ⟨rfl, hd2⟩; have HD2 := Lib.hid (HD1.out.trans (hd2.below w.heap.size)); clear hd2))
      go_ret
      exact ⟨by rw [HE.out]; rfl, HD2.out⟩
    · have hst : stdOk xs = true := by unfold stdOk; rw [hsh, hl, decide_eq_true (by omega)]; rfl
      have HE := Lib.hid (stdOk_yes hst)
      have hc := cellsN_sum (xs := xs) (fun k => (shape_range hp k).1) n
      obtain ⟨s, hs0⟩ : ∃ s, s = cellsN xs n := ⟨_, rfl⟩
      have hs20 : s ≤ 20 := by omega
      rw [hc, ← hs0] at HSM
      have HPB := Lib.hid (prod_bnd hp)
      have HST : Hid (stdN xs = factN s / allProd xs n) := Lib.hid (by unfold stdN; rw [hl, hs0])
      have HS := Lib.hid hs
      have HL := Lib.hid hl
      have HF20 := Lib.hid (fact20 hs20)
      have HCO := Lib.hid (fun w' (hd : Below w.heap.size w w') => specConj_any A n c xs w' (hs.below hd (Nat.le_refl _)) hn)
      have HCY := Lib.hid (conj_yes hsh)
      have HRN := Lib.hid (shape_range hp)
      have h20' : ¬ (20 : Int) < (s : Int) := by omega
      clear hsh hs hp hl hs0 hst hc h20
      go_enter Try.func39, Try.ntmps39
      go_wp2_with (first
        | (go_at_call 15; refine HI.out.mono ?_; rintro e w1 ⟨rfl, hd1⟩; have HD1 := Lib.hid (hd1.below w.heap.size); clear hd1)
        | (go_at_call 19; refine (HCO.out _ HD2.out).mono ?_; rintro e w3 ⟨A3, n3, c3, rfl, ho3, hb3⟩
           rw [HCY.out] at ho3
           have HO3 := Lib.hid ho3
           have HB3 : Hid (Below w.heap.size w w3) := Lib.hid (HD2.out.trans (hb3.mono HD2.out.size))
           clear ho3 hb3)
        | (go_at_call 75; first
            | ((with_reducible refine (HSM.out _ HD1.out).mono ?_); rintro e w2 ⟨rfl, hd2⟩; have HD2 := Lib.hid (HD1.out.trans (hd2.below w.heap.size)); clear hd2)
            | ((with_reducible refine (HSM.out _ HB3.out).mono ?_); rintro e w4 ⟨rfl, hd4⟩; have HD4 := Lib.hid hd4; clear hd4))
        | (go_at_call 76; refine (l1Factorial_any s _ hs20).mono ?_; rintro e w5 ⟨rfl, rfl⟩))
      obtain ⟨wf, rfl⟩ : ∃ wf, wf = w4 := ⟨w4, rfl⟩
      have HB4 : Hid (Below w.heap.size w wf) := Lib.hid (HB3.out.trans (HD4.out.below _))
      have HO4 : Hid (SI wf A3 n3 (conjL xs (nth xs 0).toNat)) := Lib.hid (HD4.out.si HO3.out.si)
      have HN3 : Hid (n3 = (nth xs 0).toNat) := Lib.hid (by have := HO3.out.len; rw [conjL_len] at this; exact this.symm)
      go_loopw [4, 5] (fun pv iv wr => ∃ i : Nat, i ≤ n ∧ iv = .int .i64 i ∧ pv = .int .i64 ((factN s / allProd xs i : Nat) : Int) ∧ Drawn wf wr)
        (fun _ iv _ => n - (intOf iv).toNat)
      case atStart => exact ⟨0, Nat.zero_le _, rfl, by show _ = Value.int .i64 ((factN s / 1 : Nat) : Int); rw [Nat.div_one], Drawn.refl _⟩
      case round =>
        obtain ⟨i, hi, rfl, rfl, hD⟩ := hrel
        have HDR := Lib.hid hD
        clear hD
        by_cases hlt : i < n
        · have hiI : (i : Int) < (n : Int) := by omega
          obtain ⟨t, ht⟩ : ∃ t : Nat, nth xs i = (t : Int) := ⟨(nth xs i).toNat, by have := (HRN.out i).1; omega⟩
          have HT := Lib.hid ht
          have ht16 : t ≤ 16 := by have := (HRN.out i).2; omega
          have HTR : Hid (rowN xs i = t) := Lib.hid (by unfold rowN; omega)
          go_wp2_with fail
          go_loopw [4, 6] (fun pv jv wx => ∃ j : Nat, j ≤ t ∧ jv = .int .i64 j ∧ pv = .int .i64 ((factN s / (allProd xs i * rowProd xs i j) : Nat) : Int) ∧ Drawn wf wx)
            (fun _ jv _ => t - (intOf jv).toNat)
          case atStart => exact ⟨0, Nat.zero_le _, rfl, by show _ = Value.int .i64 ((factN s / (allProd xs i * 1) : Nat) : Int); rw [Nat.mul_one], HDR.out⟩
          case round =>
            obtain ⟨j, hj, rfl, rfl, hD⟩ := hrel
            clear HDR
            have HDR := Lib.hid hD
            obtain ⟨b, o, e1, hb, hc⟩ := (HS.out.below (HB4.out.trans (hD.below _)) (Nat.le_refl _)).at_ (by omega)
            subst e1
            have hc1 := hc i hlt
            rw [ht] at hc1
            clear hD hc
            by_cases hlt2 : j < t
            · have hjI : (j : Int) < (t : Int) := by omega
              have hjx : (j : Int) < nth xs i := by omega
              have hfirst := shape_first HP.out i (by rw [HL.out]; exact hlt)
              have hjn : j < n3 := by rw [HN3.out]; omega
              have hjnI : (j : Int) < (n3 : Int) := by omega
              obtain ⟨b3, o3, e3, hb3, hc3⟩ := (HDR.out.si HO4.out).at_ (by omega)
              subst e3
              have hc31 := hc3 j hjn
              rw [show nth (conjL xs (nth xs 0).toNat) j = cntN xs j xs.length by rw [nth_get (by rw [conjL_len, ← HN3.out]; exact hjn)]; simp [conjL]] at hc31
              have hbn := hook_bnd HP.out (by rw [HL.out]; exact hlt) hjx
              have hcr := cntN_range xs j xs.length
              obtain ⟨y, hy⟩ : ∃ y, y = cntN xs j xs.length := ⟨_, rfl⟩
              have hhk : hkI xs i j = (t : Int) - (j : Int) + y - (i : Int) - 1 := by unfold hkI; rw [ht, ← hy]
              rw [← hy] at hc31 hcr
              rw [HL.out] at hcr
              obtain ⟨h, hh⟩ : ∃ h : Nat, (t : Int) - (j : Int) + y - (i : Int) - 1 = (h : Int) := ⟨hkN xs i j, by unfold hkN; rw [← hhk]; have := hbn.1; omega⟩
              have hh1 : 1 ≤ h := by have := hbn.1; omega
              have HNX : Hid (allProd xs i * rowProd xs i (j + 1) = allProd xs i * rowProd xs i j * h) := Lib.hid (by
                show allProd xs i * (rowProd xs i j * hkN xs i j) = _
                rw [show hkN xs i j = h by unfold hkN; omega, Nat.mul_assoc])
              obtain ⟨q, hq⟩ : ∃ q, q = factN s / (allProd xs i * rowProd xs i j) := ⟨_, rfl⟩
              obtain ⟨r, hr⟩ : ∃ r, r = q / h := ⟨_, rfl⟩
              have HQ : Hid (factN s / (allProd xs i * rowProd xs i j * h) = r) := Lib.hid (by rw [hr, hq, Nat.div_div_eq_div_mul])
              have hq20 : q ≤ 2432902008176640000 := by rw [hq]; exact Nat.le_trans (Nat.div_le_self _ _) HF20.out
              rw [← hq]
              obtain ⟨hcr0, hcr1⟩ := hcr
              have hw1 : IntKind.i64.wrap ((t : Int) - (j : Int)) = (t : Int) - (j : Int) := IntWalk.i64_in _ (by omega)
              have hw2 : IntKind.i64.wrap ((t : Int) - (j : Int) + y) = (t : Int) - (j : Int) + y := IntWalk.i64_in _ (by omega)
              have hw3 : IntKind.i64.wrap ((t : Int) - (j : Int) + y - (i : Int)) = (t : Int) - (j : Int) + y - (i : Int) := IntWalk.i64_in _ (by omega)
              have hw4 : IntKind.i64.wrap ((t : Int) - (j : Int) + y - (i : Int) - 1) = (h : Int) := by rw [hh]; exact IntWalk.i64_in _ (by omega)
              have hnz : ¬ (h : Int) = 0 := by omega
              have hr20 : r ≤ 2432902008176640000 := by rw [hr]; exact Nat.le_trans (Nat.div_le_self _ _) hq20
              have hdv : IntKind.i64.wrap (Int.tdiv (q : Int) (h : Int)) = (r : Int) := by rw [tdiv_nat, ← hr]; exact IntWalk.i64_in _ (by omega)
              have HW : Hid (wrap64 ((q : Int) / (h : Int)) = (r : Int)) := Lib.hid (by
                have e1 : (q : Int) / (h : Int) = (r : Int) := by rw [hr]; rfl
                rw [e1]; unfold wrap64; omega)
              clear hr hc3 hbn hy hhk hq hfirst hjx ht hh hb3 hb
              go_wp2_with fail
              go_quiet (fail)
              clear hw1 hw2 hw3 hw4 hdv
              go_wp2
              go_roundw
              case rel => exact ⟨j + 1, by omega, by go_num, by rw [HNX.out, HQ.out, HW.out], HDR.out.drewN _⟩
              case measure => simp [intOf]; omega
            · obtain rfl : j = t := by omega
              have HAP : Hid (allProd xs (i + 1) = allProd xs i * rowProd xs i j) := Lib.hid (by show allProd xs i * rowProd xs i (rowN xs i) = _; rw [HTR.out])
              obtain ⟨q, hq⟩ : ∃ q, q = factN s / (allProd xs i * rowProd xs i j) := ⟨_, rfl⟩
              rw [← hq]
              have HQ : Hid (factN s / allProd xs (i + 1) = q) := Lib.hid (by rw [hq, HAP.out])
              clear hq
              go_wp2
              go_roundw
              case rel => exact ⟨i + 1, by omega, by go_num, by rw [HQ.out], HDR.out⟩
              case measure => simp [intOf]; omega
        · obtain rfl : i = n := by omega
          have HR : Hid (factN s / allProd xs i = stdN xs) := Lib.hid HST.out.symm
          obtain ⟨q, hq⟩ : ∃ q, q = factN s / allProd xs i := ⟨_, rfl⟩
          rw [← hq] at HR ⊢
          clear hq
          go_wp2
          go_ret
          exact ⟨by rw [HE.out, ← HR.out]; rfl, HB4.out.trans (HDR.out.below _)⟩
set_option maxHeartbeats 800000 in
theorem isShapeUpTo_any (A : Option Addr) (n c : Nat) (xs : List Int) (m : Int) (w : World) (hs : SI w A n xs) (hn : n ≤ 1099511627776) (hm : 0 ≤ m ∧ m ≤ 1000) :
    Calls Try.prog 77 #[.int .i64 m, .slice A n c] w fun e w' => e = .returned (.bool (isShapeB xs && decide (sumN xs xs.length ≤ m))) ∧ Drawn w w' := by
  have HI := Lib.hid (implIsShape_any A n c xs w hs hn)
  cases hsh : isShapeB xs with
  | false =>
    rw [hsh] at HI
    clear hsh hs
    go_enter Try.func77, Try.ntmps77
    go_wp2_with (go_at_call 17; refine HI.out.mono ?_; rintro e w1 ⟨rfl, hd1⟩)
    go_ret
    exact ⟨ret_bool (by simp), hd1⟩
  | true =>
    rw [hsh] at HI
    have hp := isShapeB_P hsh
    have hl := hs.1
    have h16 : n ≤ 16 := by have := hp.1; omega
    have HSB := Lib.hid (sum_bnd hp)
    have HRN := Lib.hid (shape_range hp)
    have HS := Lib.hid hs
    rw [hl]
    clear hsh hs hp hl
    go_enter Try.func77, Try.ntmps77
    go_wp2_with (go_at_call 17; refine HI.out.mono ?_; rintro e w1 ⟨rfl, hd1⟩; have HD1 := Lib.hid hd1; clear hd1)
    go_loopw [0, 12] (fun mv iv wr => ∃ i : Nat, i ≤ n ∧ iv = .int .i64 i ∧ mv = .int .i64 (m - sumN xs i) ∧ Drawn w wr)
      (fun _ iv _ => n - (intOf iv).toNat)
    case atStart => exact ⟨0, Nat.zero_le _, rfl, by show _ = Value.int .i64 (m - 0); rw [Int.sub_zero], HD1.out⟩
    case round =>
      obtain ⟨i, hi, rfl, rfl, hD⟩ := hrel
      have HDR := Lib.hid hD
      have hb := HSB.out i (by omega)
      obtain ⟨y, hy⟩ : ∃ y, y = sumN xs i := ⟨_, rfl⟩
      have e : sumN xs (i + 1) = sumN xs i + nth xs i := rfl
      rw [← hy] at e hb ⊢
      by_cases hlt : i < n
      · have hiI : (i : Int) < (n : Int) := by omega
        obtain ⟨b, o, rfl, hbb, hc⟩ := (hD.si HS.out).at_ (by omega)
        have hc1 := hc i hlt
        have hr := HRN.out i
        obtain ⟨x, hx⟩ : ∃ x, x = nth xs i := ⟨_, rfl⟩
        rw [← hx] at hc1 e hr
        obtain ⟨hr0, hr1⟩ := hr
        obtain ⟨hb0, hb1⟩ := hb
        have HE : Hid (m - sumN xs (i + 1) = m - y - x) := Lib.hid (by rw [e]; omega)
        have hwr : IntKind.i64.wrap (m - y - x) = m - y - x := IntWalk.i64_in _ (by omega)
        clear hc hD hy hx e
        go_wp2
        go_roundw
        case rel => exact ⟨i + 1, by omega, by go_num, by rw [HE.out], HDR.out⟩
        case measure => simp [intOf]; omega
      · obtain rfl : i = n := by omega
        have HY : Hid (sumN xs i = y) := Lib.hid hy.symm
        clear hD hy e
        go_wp2
        go_ret
        refine ⟨ret_bool ?_, HDR.out⟩
        rw [HY.out]
        by_cases h : y ≤ m
        · simp [h]
        · simp [h] <;> omega
set_option maxRecDepth 100000 in
set_option maxHeartbeats 2000000 in
theorem implStd_any (A : Option Addr) (n c : Nat) (xs : List Int) (w : World) (hs : SI w A n xs) (hn : n ≤ 1099511627776) :
    Calls Try.prog 40 #[.slice A n c] w fun e w' => e = .returned (.int .i64 (stdCount xs)) ∧ Below w.heap.size w w' := by
  have HU := Lib.hid (isShapeUpTo_any A n c xs 20 w hs hn (by omega))
  rw [show (isShapeB xs && decide (sumN xs xs.length ≤ 20)) = stdOk xs from rfl] at HU
  cases hst : stdOk xs with
  | false =>
    rw [hst] at HU
    have HE := Lib.hid (stdOk_no hst)
    clear hst hs
    go_enter Try.func40, Try.ntmps40
    go_wp2_with (go_at_call 77; refine HU.out.mono ?_; rintro e w1 ⟨rfl, hd1⟩)
    go_ret
    exact ⟨by rw [HE.out]; rfl, hd1.below _⟩
  | true =>
    rw [hst] at HU
    have HE := Lib.hid (stdOk_yes hst)
    unfold stdOk at hst
    simp only [Bool.and_eq_true, decide_eq_true_eq] at hst
    obtain ⟨hsh, h20⟩ := hst
    have hp := isShapeB_P hsh
    have hl := hs.1
    rw [hl] at h20
    have HP := Lib.hid hp
    have h16 : n ≤ 16 := by have := hp.1; omega
    have hc := cellsN_sum (xs := xs) (fun k => (shape_range hp k).1) n
    obtain ⟨s, hs0⟩ : ∃ s, s = cellsN xs n := ⟨_, rfl⟩
    have hs20 : s ≤ 20 := by omega
    have hpb := prod_bnd hp
    rw [hl, ← hs0] at hpb
    have HPB := Lib.hid hpb
    have HCM : Hid (∀ i, i ≤ n → cellsN xs i ≤ s) := Lib.hid (fun i hi => by rw [hs0]; exact cellsN_mono xs hi)
    have HSS : Hid (cellsN xs n = s) := Lib.hid hs0.symm
    have HST : Hid (stdN xs = factN s / allProd xs n) := Lib.hid (by unfold stdN; rw [hl, hs0])
    have HS := Lib.hid hs
    have HL := Lib.hid hl
    have HF20 := Lib.hid (fact20 hs20)
    have HCO := Lib.hid (fun w' (hd : Below w.heap.size w w') => implConj_any A n c xs w' (hs.below hd (Nat.le_refl _)) hn)
    have HCY := Lib.hid (conj_yes hsh)
    have HRN := Lib.hid (shape_range hp)
    clear hsh hs hp hl hs0 hc h20 hpb
    go_enter Try.func40, Try.ntmps40
    go_wp2_with (first
      | (go_at_call 77; refine HU.out.mono ?_; rintro e w1 ⟨rfl, hd1⟩; have HD1 := Lib.hid (hd1.below w.heap.size); clear hd1)
      | (go_at_call 20; refine (HCO.out _ HD1.out).mono ?_; rintro e wf ⟨A3, n3, c3, rfl, ho3, hb3⟩
         rw [HCY.out] at ho3
         have HO4 : Hid (SI wf A3 n3 (conjL xs (nth xs 0).toNat)) := Lib.hid ho3.si
         have HN3 : Hid (n3 = (nth xs 0).toNat) := Lib.hid (by have := ho3.len; rw [conjL_len] at this; exact this.symm)
         have HB4 : Hid (Below w.heap.size w wf) := Lib.hid (HD1.out.trans (hb3.mono HD1.out.size))
         clear ho3 hb3))
    go_loopw [4, 5, 6, 17] (fun sv nv hv iv wr => ∃ i : Nat, i ≤ n ∧ iv = .int .i64 i ∧ sv = .int .i64 (cellsN xs i : Nat) ∧ nv = .int .i64 (factN (cellsN xs i) : Nat) ∧ hv = .int .i64 (allProd xs i : Nat) ∧ Drawn wf wr)
      (fun _ _ _ iv _ => n - (intOf iv).toNat)
    case atStart => exact ⟨0, Nat.zero_le _, rfl, rfl, rfl, rfl, Drawn.refl _⟩
    case round =>
      obtain ⟨i, hi, rfl, rfl, rfl, rfl, hD⟩ := hrel
      have HDR := Lib.hid hD
      clear hD
      by_cases hlt : i < n
      · have hiI : (i : Int) < (n : Int) := by omega
        obtain ⟨b, o, rfl, hb, hc⟩ := (HS.out.below (HB4.out.trans (HDR.out.below _)) (Nat.le_refl _)).at_ (by omega)
        have hc1 := hc i hlt
        obtain ⟨t, ht⟩ : ∃ t : Nat, nth xs i = (t : Int) := ⟨(nth xs i).toNat, by have := (HRN.out i).1; omega⟩
        have HT := Lib.hid ht
        have ht16 : t ≤ 16 := by have := (HRN.out i).2; omega
        have HTR : Hid (rowN xs i = t) := Lib.hid (by unfold rowN; omega)
        rw [ht] at hc1
        clear hc ht
        obtain ⟨a, ha⟩ : ∃ a, a = cellsN xs i := ⟨_, rfl⟩
        have HAC := Lib.hid ha
        have has : a + t ≤ s := by have := HCM.out (i + 1) hlt; have e : cellsN xs (i + 1) = cellsN xs i + rowN xs i := rfl; rw [e, HTR.out, ← ha] at this; exact this
        obtain ⟨P, hP⟩ : ∃ P, P = allProd xs i := ⟨_, rfl⟩
        have HPC := Lib.hid hP
        obtain ⟨F, hF⟩ : ∃ F, F = factN a := ⟨_, rfl⟩
        have HFC := Lib.hid hF
        rw [← ha, ← hP, ← hF]
        clear ha hP hF
        go_wp2_with fail
        clear hc1
        go_loopw [4, 5, 6, 23] (fun sv nv hv jv wx => ∃ j : Nat, j ≤ t ∧ jv = .int .i64 j ∧ sv = .int .i64 (a + j : Nat) ∧ nv = .int .i64 (factN (a + j) : Nat) ∧ hv = .int .i64 (P * rowProd xs i j : Nat) ∧ Drawn wf wx)
          (fun _ _ _ jv _ => t - (intOf jv).toNat)
        case atStart => exact ⟨0, Nat.zero_le _, rfl, rfl, by rw [HFC.out]; rfl, by show _ = Value.int .i64 ((P * 1 : Nat) : Int); rw [Nat.mul_one], HDR.out⟩
        case round =>
          obtain ⟨j, hj, rfl, rfl, rfl, rfl, hD⟩ := hrel
          clear HDR
          have HDR := Lib.hid hD
          clear hD
          by_cases hlt2 : j < t
          · have hjI : (j : Int) < (t : Int) := by omega
            have hjx : (j : Int) < nth xs i := by have := HT.out; omega
            have hfirst := shape_first HP.out i (by rw [HL.out]; exact hlt)
            have hjn : j < n3 := by rw [HN3.out]; have := HT.out; omega
            have hjnI : (j : Int) < (n3 : Int) := by omega
            obtain ⟨b3, o3, rfl, hb3, hc3⟩ := (HDR.out.si HO4.out).at_ (by omega)
            have hc31 := hc3 j hjn
            rw [show nth (conjL xs (nth xs 0).toNat) j = cntN xs j xs.length by rw [nth_get (by rw [conjL_len, ← HN3.out]; exact hjn)]; simp [conjL]] at hc31
            have hbn := hook_bnd HP.out (by rw [HL.out]; exact hlt) hjx
            have hcr := cntN_range xs j xs.length
            obtain ⟨y, hy⟩ : ∃ y, y = cntN xs j xs.length := ⟨_, rfl⟩
            have hhk : hkI xs i j = (t : Int) - (j : Int) + y - (i : Int) - 1 := by unfold hkI; rw [HT.out, ← hy]
            rw [← hy] at hc31 hcr
            rw [HL.out] at hcr
            obtain ⟨h, hh⟩ : ∃ h : Nat, (t : Int) - (j : Int) + y - (i : Int) - 1 = (h : Int) := ⟨hkN xs i j, by unfold hkN; rw [← hhk]; have := hbn.1; omega⟩
            have hpb1 := ((HPB.out i (by omega)).1 (j + 1) (by rw [HTR.out]; omega) hlt).2
            rw [← HPC.out] at hpb1
            obtain ⟨p, hp⟩ : ∃ p, p = P * rowProd xs i j := ⟨_, rfl⟩
            have HNX : Hid (P * rowProd xs i (j + 1) = p * h) := Lib.hid (by
              show P * (rowProd xs i j * hkN xs i j) = _
              rw [show hkN xs i j = h by unfold hkN; omega, hp, Nat.mul_assoc])
            rw [HNX.out] at hpb1
            have hph : p * h ≤ 2432902008176640000 := Nat.le_trans (Nat.le_trans (Nat.le_mul_of_pos_right _ (factN_pos _)) hpb1) HF20.out
            obtain ⟨f, hf⟩ : ∃ f, f = factN (a + j) := ⟨_, rfl⟩
            have hfm : factN (a + j + 1) ≤ 2432902008176640000 := fact20 (by omega)
            have HFN : Hid (factN (a + (j + 1)) = (a + j + 1) * f) := Lib.hid (by rw [hf]; rfl)
            have hfm2 : (a + j + 1) * f ≤ 2432902008176640000 := by rw [← HFN.out]; exact hfm
            rw [← hp, ← hf]
            obtain ⟨hcr0, hcr1⟩ := hcr
            have haj : a + j ≤ 20 := by omega
            obtain ⟨q, hq⟩ : ∃ q, q = a + j := ⟨_, rfl⟩
            rw [← hq] at hfm2 HFN haj ⊢
            have HQ := Lib.hid hq
            obtain ⟨r, hr⟩ : ∃ r, r = (q + 1) * f := ⟨_, rfl⟩
            rw [← hr] at hfm2 HFN
            obtain ⟨z, hz⟩ : ∃ z, z = p * h := ⟨_, rfl⟩
            rw [← hz] at hph HNX
            have hw0 : IntKind.i64.wrap ((q : Int) + 1) = (q : Int) + 1 := IntWalk.i64_in _ (by omega)
            have hw1 : IntKind.i64.wrap ((t : Int) - (j : Int)) = (t : Int) - (j : Int) := IntWalk.i64_in _ (by omega)
            have hw2 : IntKind.i64.wrap ((t : Int) - (j : Int) + y) = (t : Int) - (j : Int) + y := IntWalk.i64_in _ (by omega)
            have hw3 : IntKind.i64.wrap ((t : Int) - (j : Int) + y - (i : Int)) = (t : Int) - (j : Int) + y - (i : Int) := IntWalk.i64_in _ (by omega)
            have hw4 : IntKind.i64.wrap ((t : Int) - (j : Int) + y - (i : Int) - 1) = (h : Int) := by rw [hh]; exact IntWalk.i64_in _ (by omega)
            have hw5 : IntKind.i64.wrap ((f : Int) * ((q : Int) + 1)) = (r : Int) := by
              have e1 : (f : Int) * ((q : Int) + 1) = (r : Int) := by rw [hr, Nat.mul_comm, Int.natCast_mul]; rfl
              rw [e1]; exact IntWalk.i64_in _ (by omega)
            have hw6 : IntKind.i64.wrap ((p : Int) * (h : Int)) = (z : Int) := by
              have e1 : (p : Int) * (h : Int) = (z : Int) := by rw [hz, Int.natCast_mul]
              rw [e1]; exact IntWalk.i64_in _ (by omega)
            clear hc3 hbn hy hhk hq hfirst hjx hh hb3 hp hf hfm hr hz hpb1
            go_wp2
            go_roundw
            case rel => exact ⟨j + 1, by omega, by go_num, by rw [show ((a + (j + 1) : Nat) : Int) = (q : Int) + 1 by have := HQ.out; omega], by rw [HFN.out], by rw [HNX.out], HDR.out⟩
            case measure => simp [intOf]; omega
          · obtain rfl : j = t := by omega
            have HA1 : Hid (cellsN xs (i + 1) = a + j) := Lib.hid (by show cellsN xs i + rowN xs i = _; rw [HTR.out, ← HAC.out])
            have HA2 : Hid (allProd xs (i + 1) = P * rowProd xs i j) := Lib.hid (by show allProd xs i * rowProd xs i (rowN xs i) = _; rw [HTR.out, ← HPC.out])
            go_wp2
            go_roundw
            case rel => exact ⟨i + 1, by omega, by go_num, by rw [HA1.out], by rw [HA1.out], by rw [HA2.out], HDR.out⟩
            case measure => simp [intOf]; omega
      · obtain rfl : i = n := by omega
        have HR : Hid (stdN xs = factN s / allProd xs i) := Lib.hid HST.out
        have hpos : 0 < allProd xs i := ((HPB.out i (Nat.le_refl _)).2).1
        rw [HSS.out]
        obtain ⟨P, hP⟩ : ∃ P, P = allProd xs i := ⟨_, rfl⟩
        have hF := HF20.out
        obtain ⟨F, hFF⟩ : ∃ F, F = factN s := ⟨_, rfl⟩
        obtain ⟨r, hr⟩ : ∃ r, r = F / P := ⟨_, rfl⟩
        have hr20 : r ≤ 2432902008176640000 := by rw [hr]; exact Nat.le_trans (Nat.div_le_self _ _) (by rw [hFF]; exact hF)
        have HW : Hid (wrap64 ((F : Int) / (P : Int)) = (r : Int)) := Lib.hid (by
          have e1 : (F : Int) / (P : Int) = (r : Int) := by rw [hr]; rfl
          rw [e1]; unfold wrap64; omega)
        have HR2 : Hid (stdN xs = r) := Lib.hid (by rw [HR.out, hr, hP, hFF])
        rw [← hP] at hpos ⊢
        rw [← hFF]
        have hnz : ¬ (P : Int) = 0 := by omega
        have hdv : IntKind.i64.wrap (Int.tdiv (F : Int) (P : Int)) = (r : Int) := by rw [tdiv_nat, ← hr]; exact IntWalk.i64_in _ (by omega)
        clear hP hF hFF hr hpos
        go_wp2
        go_ret
        refine ⟨?_, HB4.out.trans (HDR.out.below _)⟩
        rw [HE.out, HR2.out]
        first | rfl | (have := HW.out; simp [this]) | (have := HW.out; simpa using this)
end Go.Proofs.Ythinbmjcdcmioaa
