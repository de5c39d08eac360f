/-
  Texts Words to PrtTermFrame, merged. Conditions: as each says.
-/
import Derived.Test.YthinbmjcdcmioaaRows
import Derived.WalkKit
import Derived.WalkSpells
import Derived.WalkLawsBesides
import Derived.Deep.QuietTactic
import Derived.BigQuiet
import Derived.Handy
import Derived.Lib.Hide
import Derived.Deep.AppendLies
import Derived.Laws.OwnMore
import Derived.Maps.AppendAt
import Derived.Deep.MidRow
import Derived.RegionTactic
import Derived.BigRegion
import Derived.Sort.Grow
import Derived.ProofKit
import Derived.OpenShut
import Derived.ChangeOld
import Derived.Deep.SlicePairs
/-
  Words for memory: a slice of integers that reads as a list; plain lemmas. No conditions.
-/










namespace Go.Proofs.Ythinbmjcdcmioaa
open Go.RowKit

theorem add_pt (b o k : Nat) : (Addr.mk b o none).add k = ⟨b, o + k, none⟩ := Addr.add_lit b o k

/-- The k-th number of a list (not unfolded by the walk). -/
def nth (xs : List Int) (k : Nat) : Int := xs.getD k 0
theorem nth_get {xs : List Int} {k : Nat} (h : k < xs.length) : nth xs k = xs[k] := by simp [nth, List.getD, h]
theorem nth_get? {xs : List Int} {k : Nat} (h : k < xs.length) : xs[k]? = some (nth xs k) := by simp [nth, List.getD, h]
theorem take_nth {xs : List Int} {k : Nat} (h : k < xs.length) : xs.take (k + 1) = xs.take k ++ [nth xs k] := by
  rw [List.take_succ_eq_append_getElem h, nth_get h]

/-- The slice (A, n) reads as the integers xs. -/
def SI (w : World) (A : Option Addr) (n : Nat) (xs : List Int) : Prop :=
  xs.length = n ∧ (0 < n → ∃ b o, A = some ⟨b, o, none⟩ ∧ b < w.heap.size ∧ ∀ k, k < n → w.cell? ⟨b, o + k, none⟩ = some (.int .i64 (nth xs k)))

section
variable {w w' : World} {A : Option Addr} {n : Nat} {xs : List Int}
theorem SI.nil (w : World) (A : Option Addr) : SI w A 0 [] := ⟨rfl, fun h => absurd h (by omega)⟩
theorem SI.at_ (h : SI w A n xs) (hn : 0 < n) : ∃ b o, A = some ⟨b, o, none⟩ ∧ b < w.heap.size ∧ ∀ k, k < n → w.cell? ⟨b, o + k, none⟩ = some (.int .i64 (nth xs k)) := h.2 hn
theorem SI.below {B : Nat} (h : SI w A n xs) (hb : Below B w w') (hB : w.heap.size ≤ B) : SI w' A n xs :=
  ⟨h.1, fun hn => by
    obtain ⟨b, o, e, hl, hc⟩ := h.2 hn
    have hs := hb.size
    exact ⟨b, o, e, by omega, fun k hk => (hb.cell (p := ⟨b, o + k, none⟩) (by show b < B; omega)).trans (hc k hk)⟩⟩
theorem SI.drewN (h : SI w A n xs) (k : Nat) : SI (w.drewN k) A n xs := h
theorem SI.drew (h : SI w A n xs) : SI w.drew A n xs := h
theorem SI.alloc (h : SI w A n xs) (o : Obj) : SI (w.alloc o) A n xs := h.below ((Below.refl w.heap.size w).alloc (Nat.le_refl _) o) (Nat.le_refl _)
theorem nth_take {k j : Nat} (hj : j < k) : nth (xs.take k) j = nth xs j := by simp [nth, List.getD, hj]
theorem SI.take {k : Nat} (h : SI w A n xs) (hk : k ≤ n) : SI w A k (xs.take k) := by
  refine ⟨by rw [List.length_take, h.1]; omega, fun h0 => ?_⟩
  obtain ⟨b, o, e, hb, hc⟩ := h.2 (by omega)
  exact ⟨b, o, e, hb, fun j hj => by rw [nth_take hj]; exact hc j (by omega)⟩
theorem SI.of_own {base : Nat} {c : Nat} (h : w.ownsRow base 3 1 (.slice A n c) n (xs.map (Value.int .i64))) : SI w A n xs := by
  have h1 := h.1
  simp at h1
  refine ⟨h1, fun hn => ?_⟩
  obtain ⟨g, cap, hv, _, hlt⟩ := h.form hn
  have hA : A = some ⟨g, 0, none⟩ := by injection hv
  subst hA
  refine ⟨g, 0, rfl, hlt, fun k hk => ?_⟩
  have := h.cells (g := g) rfl k (.int .i64 (nth xs k)) (by rw [List.getElem?_map, nth_get? (show k < xs.length by omega)]; rfl)
  rw [add_pt] at this
  exact this
end

/-- w' is w but for draws. -/
def Drawn (w w' : World) : Prop := ∃ m, w' = w.drewN m
theorem Drawn.refl (w : World) : Drawn w w := ⟨0, rfl⟩
theorem Drawn.drewN {w w' : World} (h : Drawn w w') (n : Nat) : Drawn w (w'.drewN n) := by
  obtain ⟨m, rfl⟩ := h; exact ⟨m + n, by rw [World.drewN_drewN]⟩
theorem Drawn.trans {w w' w'' : World} (h : Drawn w w') (h' : Drawn w' w'') : Drawn w w'' := by
  obtain ⟨m, rfl⟩ := h'; exact h.drewN m
theorem Drawn.heap {w w' : World} (h : Drawn w w') : w'.heap = w.heap := by obtain ⟨m, rfl⟩ := h; rfl
theorem Drawn.below {w w' : World} (h : Drawn w w') (B : Nat) : Below B w w' := by obtain ⟨m, rfl⟩ := h; exact ⟨rfl, rfl, rfl, Nat.le_refl _, fun _ _ => rfl⟩
theorem Drawn.si {w w' : World} (h : Drawn w w') {A : Option Addr} {n : Nat} {xs : List Int} (hs : SI w A n xs) : SI w' A n xs := by obtain ⟨m, rfl⟩ := h; exact hs
/-- Block g is just the cells cs of element type t, none frozen. -/
def Blk (w : World) (g : Nat) (t : TypeId) (cs : Array Value) : Prop := w.heap[g]? = some (.cells cs t (0, 0))
section
variable {w w' : World} {g : Nat} {t : TypeId} {cs : Array Value}
theorem Blk.lt (h : Blk w g t cs) : g < w.heap.size := by
  rcases Nat.lt_or_ge g w.heap.size with hlt | hge
  · exact hlt
  · unfold Blk at h; rw [Array.getElem?_eq_none hge] at h; cases h
theorem Blk.cell (h : Blk w g t cs) (i : Nat) : w.cell? ⟨g, i, none⟩ = cs[i]? := cell_of_row w g i cs t (0, 0) h
theorem Blk.frozen (h : Blk w g t cs) (i : Nat) : w.frozen? ⟨g, i, none⟩ = false := by
  unfold Blk at h
  simp [World.frozen?, h]
theorem Blk.new (w : World) (t : TypeId) (cs : Array Value) : Blk (w.alloc (.cells cs t)) w.heap.size t cs := heap_alloc_new w _
theorem Blk.drawn (h : Blk w g t cs) (hd : Drawn w w') : Blk w' g t cs := by obtain ⟨m, rfl⟩ := hd; exact h
theorem Blk.drewN (h : Blk w g t cs) (n : Nat) : Blk (w.drewN n) g t cs := h
theorem Blk.alloc (h : Blk w g t cs) (o : Obj) : Blk (w.alloc o) g t cs := (Below.heap_alloc w o g h.lt).trans h
theorem Blk.set_ (h : Blk w g t cs) (i : Nat) (u : Value) : Blk (w.setCell ⟨g, i, none⟩ u) g t (cs.setIfInBounds i u) := by
  unfold Blk at h ⊢
  simp [World.setCell, Array.getElem?_modify, h]
theorem Blk.far (h : Blk w g t cs) {p : Addr} (hp : g ≠ p.block) (u : Value) : Blk (w.setCell p u) g t cs := (Below.heap_setCell w p u g hp).trans h
theorem Blk.below {B : Nat} (h : Blk w g t cs) (hb : Below B w w') (hg : g < B) : Blk w' g t cs := (hb.block g hg).trans h
theorem Blk.row (h : Blk w g t cs) (cs' : Array Value) : Blk (w.setRow g cs') g t cs' := setRow_heap w g cs cs' t (0, 0) h
theorem Blk.row_far {g' : Nat} (h : Blk w g t cs) (hne : g ≠ g') (cs' : Array Value) : Blk (w.setRow g' cs') g t cs := (setRow_other w g' g cs' hne).trans h
theorem Blk.grown {row : Option Nat} (h : Blk w g t cs) (hb : w.grownBy w' row) (hg : some g ≠ row) : Blk w' g t cs := (hb.block g h.lt hg).trans h
end
theorem grownBy_setRow (w : World) (g : Nat) (cs : Array Value) : w.grownBy (w.setRow g cs) (some g) := ⟨rfl, rfl, rfl, by simp, fun k _ hk => setRow_other w g k cs (fun e => hk (by rw [e]))⟩

/-- A whole array stored into a block that is known: the world behind it is a variable. -/
theorem wpList_store_blk {P : Program} {ops : Array Oper} {rest : List Oper} {o : Oper} {a : Act} {w : World} {Q : Exit → Act → World → Prop} (hgd : o.guard = none) (ty : TypeId) (x y : Operand) (ho : o.op = .store ty x y)
    (g : Nat) (cs : Array Value) (hx : a.eval x = .pointer (some ⟨g, 0, none⟩)) (hy : a.eval y = .agg cs) (t : TypeId) (old : Array Value) (hg : Blk w g t old)
    (hi : (P.info? ty).map (·.size) = some cs.size) (hsz : old.size = cs.size) (h1 : cs.all (·.oneCell') = true)
    (hK : ∀ w', Blk w' g t cs → w.grownBy w' (some g) → wpList P ops Q rest (a.put o.dst undef) w') : wpList P ops Q (o :: rest) a w := by
  refine wpList_plain hgd fun K hK' => ?_
  unfold Oper.wp execOp
  simp only [ho, hx, hy, Instr.storeAt, Instr.sureAddr, Sem.run_bind, Sem.run_pure, Result.andThen_ok, run_storeVar_row w g t ty old cs hg hi hsz h1]
  exact hK' _ _ (hK _ (hg.row cs) (grownBy_setRow w g cs))
/-- A whole array read out of a block that is known. -/
theorem wpList_load_blk {P : Program} {ops : Array Oper} {rest : List Oper} {o : Oper} {a : Act} {w : World} {Q : Exit → Act → World → Prop} (hgd : o.guard = none) (ty : TypeId) (x : Operand) (ho : o.op = .load ty x)
    (g : Nat) (hx : a.eval x = .pointer (some ⟨g, 0, none⟩)) (t : TypeId) (cs : Array Value) (n : Nat) (e : TypeId) (hg : Blk w g t cs)
    (hu : P.underlying ty = some (.array n e)) (hi : (P.info? ty).map (·.size) = some cs.size)
    (h : wpList P ops Q rest (a.put o.dst (.agg cs)) w) : wpList P ops Q (o :: rest) a w :=
  wpList_load_row hgd ty x ho g hx t cs (0, 0) _ hg hu rfl hi h
/-- Two results, the first an array in a block that is known. -/
theorem results_blk_tmp {P : Program} {fn : Func} {p q : Tmp} {ty : TypeId} (h : fn.results = #[.cell p ty, .tmp q]) (tmps : Array Value) (w : World) (g : Nat) (t : TypeId) (cs : Array Value) (n : Nat) (e : TypeId)
    (hp : tmps.getD p undef = .pointer (some ⟨g, 0, none⟩)) (hg : Blk w g t cs) (hu : P.underlying ty = some (.array n e)) (hi : (P.info? ty).map (·.size) = some cs.size) :
    (results fn tmps).run P w = .ok (.tuple #[.agg cs, tmps.getD q undef]) w := by
  have hp' : tmps[p]?.getD undef = .pointer (some ⟨g, 0, none⟩) := by simpa using hp
  simp [results, h, hp', asAddr, run_loadVar_row w g t ty cs (0, 0) _ hg hu rfl hi]
theorem results_blk {P : Program} {fn : Func} {p : Tmp} {ty : TypeId} (h : fn.results = #[.cell p ty]) (tmps : Array Value) (w : World) (g : Nat) (t : TypeId) (cs : Array Value) (n : Nat) (e : TypeId)
    (hp : tmps.getD p undef = .pointer (some ⟨g, 0, none⟩)) (hg : Blk w g t cs) (hu : P.underlying ty = some (.array n e)) (hi : (P.info? ty).map (·.size) = some cs.size) :
    (results fn tmps).run P w = .ok (.agg cs) w :=
  results_cell_row h tmps w g t cs (0, 0) _ hp hg hu rfl hi
theorem dr2 {w : World} {m n : Nat} : ∃ k, (w.drewN m).drewN n = w.drewN k := ⟨m + n, by rw [World.drewN_drewN]⟩
theorem dr0 {w : World} : ∃ k, w = w.drewN k := ⟨0, rfl⟩
theorem below_drewN (B : Nat) (w : World) (n : Nat) : Below B w (w.drewN n) := ⟨rfl, rfl, rfl, Nat.le_refl _, fun _ _ => rfl⟩
theorem ret_eq {a b : Value} (h : a = b) : Ending.returned a = .returned b := by rw [h]
theorem ret_int {k : IntKind} {a b : Int} (h : a = b) : Ending.returned (.int k a) = .returned (.int k b) := by rw [h]
theorem ret_bool {a b : Bool} (h : a = b) : Ending.returned (.bool a) = .returned (.bool b) := by rw [h]

theorem Try.infoInt : (Try.prog.info? 3).map (fun i => (i.zero, i.size, i.bytes)) = some (some (.int .i64 0), 1, 8) := by kernel_rfl
end Go.Proofs.Ythinbmjcdcmioaa

/-
  The size of a slice of numbers that came in. Conditions: lengths below 2^63.
-/

namespace Go.Proofs.Ythinbmjcdcmioaa
open Go.RowKit

set_option maxHeartbeats 400000 in
theorem szIntS_any (A : Option Addr) (n c : Nat) (l : Int) (w : World) (hn : n ≤ 9223372036854775807) (h0 : 0 ≤ l) (h1 : l ≤ 1048576) :
    Calls Try.prog 59 #[.slice A n c, .int .i64 l] w fun e w' => e = .returned (.int .i64 (if l < (n : Int) then -1 else l - n)) ∧ w' = w := by
  by_cases h : l < (n : Int)
  · have h' : l - (n : Int) < 0 := by omega
    have hw : IntKind.i64.wrap (l - (n : Int)) = l - (n : Int) := IntWalk.i64_in _ (by omega)
    rw [if_pos h]
    go_enter Try.func59, Try.ntmps59
    go_wp2
    go_ret
    exact ⟨rfl, rfl⟩
  · have h' : ¬ l - (n : Int) < 0 := by omega
    have hw : IntKind.i64.wrap (l - (n : Int)) = l - (n : Int) := IntWalk.i64_in _ (by omega)
    rw [if_neg h]
    go_enter Try.func59, Try.ntmps59
    go_wp2
    go_ret
    exact ⟨rfl, rfl⟩
end Go.Proofs.Ythinbmjcdcmioaa

/-
  The helpers of the exact laws by their contracts: copying, comparing, marking, holding a slice of integers. Conditions: the length is at most 2^40.
-/

namespace Go.Proofs.Ythinbmjcdcmioaa
open Go.RowKit

/-- What a copying loop has made after k rounds. -/
def copied (xs : List Int) (k : Nat) : List Value := (xs.take k).map (Value.int .i64) ++ List.replicate (xs.length - k) (.int .i64 0)
theorem copied_zero (xs : List Int) : copied xs 0 = List.replicate xs.length (.int .i64 0) := by simp [copied]
theorem copied_all (xs : List Int) : copied xs xs.length = xs.map (Value.int .i64) := by simp [copied]
theorem copied_len (xs : List Int) (k : Nat) (h : k ≤ xs.length) : (copied xs k).length = xs.length := by simp [copied]; omega
theorem copied_get (xs : List Int) (k : Nat) (h : k < xs.length) : (copied xs k)[k]? = some (.int .i64 0) := by
  unfold copied
  rw [List.getElem?_append_right (by simp; omega)]
  rw [List.getElem?_replicate]
  simp; omega
theorem copied_succ (xs : List Int) (k : Nat) (h : k < xs.length) : (copied xs k).set k (.int .i64 (nth xs k)) = copied xs (k + 1) := by
  unfold copied
  have hl : (List.map (Value.int .i64) (xs.take k)).length = k := by simp; omega
  rw [List.set_append_right _ _ (by omega), hl]
  have e : xs.length - k = (xs.length - (k + 1)) + 1 := by omega
  rw [e, List.replicate_succ, Nat.sub_self, List.set_cons_zero, take_nth h, List.map_append, List.append_assoc]
  rfl

set_option maxHeartbeats 400000 in
/-- toIntS: a copy of its own. -/
theorem toIntS_any (A : Option Addr) (n c : Nat) (xs : List Int) (w : World) (hs : SI w A n xs) (hn : n ≤ 1099511627776) :
    Calls Try.prog 16 #[.slice A n c] w fun e w' =>
      e = .returned (.slice (some ⟨w.heap.size, 0, none⟩) n n) ∧ w'.ownsRow w.heap.size 3 1 (.slice (some ⟨w.heap.size, 0, none⟩) n n) n (xs.map (Value.int .i64)) ∧ Below w.heap.size w w' := by
  obtain ⟨i0, hi, hz0, hz1, hz2⟩ := info_parts Try.infoInt
  have hl := hs.1
  obtain ⟨B, hB⟩ : ∃ B, B = w.heap.size := ⟨_, rfl⟩
  have HB : Hid (B = w.heap.size) := hB
  have hBle : B ≤ w.heap.size := by omega
  go_enter Try.func16, Try.ntmps16
  go_wp2_with (at_make; refine wpList_make_full _ rfl (.tmp 6) (.tmp 6) 22 rfl w.heap.size 3 i0 (.int .i64 0) 1 Try.underlying22 hi hz0 hz1 .i64 .i64 (n : Int) (n : Int) n rfl rfl rfl rfl (by rw [hz2]; omega) (by unfold maxLen; omega) (Nat.le_refl _) ?_; intro w1 hown hgrow)
  rw [← hB] at hown ⊢
  go_loopw [4] (fun i wr => ∃ k : Nat, k ≤ n ∧ i = .int .i64 k ∧ wr.ownsRow B 3 1 (.slice (some ⟨B, 0, none⟩) n n) n (copied xs k) ∧ Below B w wr)
    (fun i _ => n - (intOf i).toNat)
  case atStart =>
    refine ⟨0, Nat.zero_le _, rfl, ?_, ?_⟩
    · rw [copied_zero, hl]
      simpa [toList_madeCells_one, Value.cells] using hown
    · exact ((Below.refl _ _).grown hgrow (by omega) (by intro k hk; cases hk))
  case round =>
    obtain ⟨k, hk, rfl, hown, hbel⟩ := hrel
    by_cases hlt : k < n
    · obtain ⟨b, o, rfl, hb, hc⟩ := hs.at_ (by omega)
      have hc1 : wr.cell? ⟨b, o + k, none⟩ = some (.int .i64 (nth xs k)) := (hbel.cell (p := ⟨b, o + k, none⟩) (by show b < B; omega)).trans (hc k hlt)
      have hc2 : wr.cell? ⟨B, k, none⟩ = some (.int .i64 0) := (hown.cellAt k (by omega)).trans (copied_get xs k (by omega))
      have hf2 : wr.frozen? ⟨B, k, none⟩ = false := hown.frozenAt k
      have hst := (hown.stored k (.int .i64 (nth xs k))).1
      rw [copied_succ xs k (by omega)] at hst
      have HS := Lib.hid hst
      have HBel := Lib.hid hbel
      clear hst hown hbel hc hB
      go_wp2
      go_roundw
      case rel => exact ⟨k + 1, by omega, by go_num, HS.out, HBel.out.setCell (Nat.le_refl _) _⟩
      case measure => simp [intOf]; omega
    · have hkn : k = n := by omega
      subst hkn
      go_wp2
      go_ret
      obtain rfl := HB.out
      refine ⟨rfl, ?_, ?_⟩
      · rw [← hl, copied_all] at hown; rw [← hl]; exact hown
      · exact hbel
/-- Equality of two lists as a Bool (not unfolded by the walk). -/
def eqL (xs ys : List Int) : Bool := decide (xs = ys)
theorem eqL_self (xs : List Int) : eqL xs xs = true := by simp [eqL]
theorem eqL_len {xs ys : List Int} (h : xs.length ≠ ys.length) : eqL xs ys = false := by
  simp only [eqL, decide_eq_false_iff_not]; intro e; exact h (by rw [e])
theorem eqL_all {xs ys : List Int} (hl : xs.length = ys.length) (h : ∀ j, j < xs.length → nth xs j = nth ys j) : eqL xs ys = true := by
  simp only [eqL, decide_eq_true_eq]
  apply List.ext_getElem hl
  intro j h1 h2
  have := h j h1
  rwa [nth_get h1, nth_get h2] at this
theorem eqL_ne {xs ys : List Int} {k : Nat} (h : nth xs k ≠ nth ys k) : eqL xs ys = false := by
  simp only [eqL, decide_eq_false_iff_not]; intro e; exact h (by rw [e])

set_option maxHeartbeats 400000 in
/-- eqIntS: are the two lists one. -/
theorem eqIntS_any (A A' : Option Addr) (n c n' c' : Nat) (xs ys : List Int) (w : World) (hs : SI w A n xs) (hs' : SI w A' n' ys) (hn : n ≤ 1099511627776) (hn' : n' ≤ 1099511627776) :
    Calls Try.prog 18 #[.slice A n c, .slice A' n' c'] w fun e w' => e = .returned (.bool (eqL xs ys)) ∧ Drawn w w' := by
  have hl := hs.1
  have hl' := hs'.1
  by_cases hne : n = n'
  · subst hne
    go_enter Try.func18, Try.ntmps18
    go_wp2
    go_loopw [5] (fun i wr => ∃ k : Nat, k ≤ n ∧ i = .int .i64 k ∧ Drawn w wr ∧ ∀ j, j < k → nth xs j = nth ys j)
      (fun i _ => n - (intOf i).toNat)
    case atStart => exact ⟨0, Nat.zero_le _, rfl, Drawn.refl _, fun j hj => absurd hj (by omega)⟩
    case round =>
      obtain ⟨k, hk, rfl, hD, hall⟩ := hrel
      have HA := Lib.hid hall
      have hs := hD.si hs
      have hs' := hD.si hs'
      have HD := Lib.hid hD
      clear hall hD
      by_cases hlt : k < n
      · obtain ⟨b, o, rfl, hb, hc⟩ := hs.at_ (by omega)
        obtain ⟨b', o', rfl, hb', hc'⟩ := hs'.at_ (by omega)
        have hc1 := hc k hlt
        have hc1' := hc' k hlt
        clear hc hc' hs hs' hl hl'
        by_cases heq : nth xs k = nth ys k
        · have HE := Lib.hid heq
          rw [← heq] at hc1'
          clear heq
          obtain ⟨x, hx⟩ : ∃ x, x = nth xs k := ⟨_, rfl⟩
          rw [← hx] at hc1 hc1'
          clear hx
          have hlI : (k : Int) < (n : Int) := by omega
          go_wp2_with fail
          go_quiet (fail)
          go_wp2
          go_roundw
          case rel => exact ⟨k + 1, by omega, by go_num, HD.out.drewN _, fun j hj => by
            rcases Nat.lt_or_ge j k with h | h
            · exact HA.out j h
            · obtain rfl : j = k := by omega
              exact HE.out⟩
          case measure => simp [intOf]; omega
        · have HE := Lib.hid heq
          obtain ⟨x, hx⟩ : ∃ x, x = nth xs k := ⟨_, rfl⟩
          obtain ⟨y, hy⟩ : ∃ y, y = nth ys k := ⟨_, rfl⟩
          rw [← hx] at hc1 heq
          rw [← hy] at hc1' heq
          clear hx hy
          have hlI : (k : Int) < (n : Int) := by omega
          have hb : (x != y) = true := by simpa using heq
          clear heq
          go_wp2_with fail
          go_quiet (fail)
          go_wp2
          go_ret
          exact ⟨ret_bool (eqL_ne HE.out).symm, HD.out.drewN _⟩
      · have hkn : k = n := by omega
        subst hkn
        go_wp2
        go_ret
        exact ⟨ret_bool (eqL_all (by omega) (by rw [hl]; exact HA.out)).symm, HD.out⟩
  · have hne' : ¬ (n : Int) = (n' : Int) := by omega
    go_enter Try.func18, Try.ntmps18
    go_wp2
    go_ret
    exact ⟨ret_bool (eqL_len (by omega)).symm, Drawn.refl _⟩

/-- The numbers j, j+1, .. that marking writes: k of them, over the first k places. -/
def marked (xs : List Int) (q : Int) (k : Nat) : List Value := (List.range k).map (fun (j : Nat) => Value.int .i64 (q + j)) ++ (xs.drop k).map (Value.int .i64)
def marks (n : Nat) (q : Int) : List Int := (List.range n).map (fun (j : Nat) => q + j)
theorem marked_zero (xs : List Int) (q : Int) : marked xs q 0 = xs.map (Value.int .i64) := by simp [marked]
theorem marked_all (xs : List Int) (q : Int) : marked xs q xs.length = (marks xs.length q).map (Value.int .i64) := by simp [marked, marks]
theorem marked_get (xs : List Int) (q : Int) (k : Nat) (h : k < xs.length) : (marked xs q k)[k]? = some (.int .i64 (nth xs k)) := by
  unfold marked
  rw [List.getElem?_append_right (by simp)]
  simp [nth_get h, h]
theorem marked_succ (xs : List Int) (q : Int) (k : Nat) (h : k < xs.length) : (marked xs q k).set k (.int .i64 (q + k)) = marked xs q (k + 1) := by
  unfold marked
  rw [List.set_append_right _ _ (by simp)]
  rw [List.drop_eq_getElem_cons h, List.range_succ]
  simp only [List.length_map, List.length_range, Nat.sub_self, List.map_cons, List.set_cons_zero, List.map_append, List.append_assoc, List.map_nil]
  rfl
theorem marks_len (n : Nat) (q : Int) : (marks n q).length = n := by simp [marks]
theorem marks_nth (n : Nat) (q : Int) (k : Nat) (h : k < n) : nth (marks n q) k = q + k := by simp [nth, marks, List.getD, h]

set_option maxHeartbeats 400000 in
/-- markIntS on a slice of the call's own: it then holds q, q+1, .. -/
theorem markIntS_own (g n c : Nat) (xs : List Int) (q : Int) (base : Nat) (w : World) (hs : w.ownsRow base 3 1 (.slice (some ⟨g, 0, none⟩) n c) n (xs.map (Value.int .i64)))
    (hn : n ≤ 1099511627776) (hq : 0 ≤ q) (hq' : q ≤ 1099511627776) :
    Calls Try.prog 21 #[.slice (some ⟨g, 0, none⟩) n c, .int .i64 q] w fun e w' =>
      e = .returned (.int .i64 (q + n)) ∧ w'.ownsRow base 3 1 (.slice (some ⟨g, 0, none⟩) n c) n ((marks n q).map (Value.int .i64)) ∧ w.grownBy w' (some g) := by
  have hl : xs.length = n := by have := hs.1; simpa using this
  go_enter Try.func21, Try.ntmps21
  go_wp2
  go_loopw [1, 5] (fun p i wr => ∃ k : Nat, k ≤ n ∧ i = .int .i64 k ∧ p = .int .i64 (q + k) ∧ wr.ownsRow base 3 1 (.slice (some ⟨g, 0, none⟩) n c) n (marked xs q k) ∧ w.grownBy wr (some g))
    (fun _ i _ => n - (intOf i).toNat)
  case atStart => exact ⟨0, Nat.zero_le _, rfl, by simp, by rw [marked_zero]; exact hs, World.grownBy.refl _ _⟩
  case round =>
    obtain ⟨k, hk, rfl, rfl, hown, hgr⟩ := hrel
    by_cases hlt : k < n
    · have hc2 : wr.cell? ⟨g, k, none⟩ = some (.int .i64 (nth xs k)) := (hown.cellAt k (by omega)).trans (marked_get xs q k (by omega))
      have hf2 : wr.frozen? ⟨g, k, none⟩ = false := hown.frozenAt k
      have hst := hown.stored k (.int .i64 (q + k))
      rw [marked_succ xs q k (by omega)] at hst
      have HS := Lib.hid hst.1
      have HG := Lib.hid (hgr.trans hst.2)
      clear hst hown hgr
      go_wp2
      go_roundw
      case rel => exact ⟨k + 1, by omega, by go_num, by go_num, HS.out, HG.out⟩
      case measure => simp [intOf]; omega
    · have hkn : k = n := by omega
      subst hkn
      go_wp2
      go_ret
      refine ⟨rfl, ?_, hgr⟩
      rw [← hl, marked_all] at hown; rw [← hl]; exact hown

set_option maxHeartbeats 400000 in
/-- heldIntS where the marks are held. -/
theorem heldIntS_yes (A : Option Addr) (n c : Nat) (q : Int) (w : World) (hs : SI w A n (marks n q)) (hn : n ≤ 1099511627776) (hq : 0 ≤ q) (hq' : q ≤ 1099511627776) :
    Calls Try.prog 22 #[.slice A n c, .int .i64 q] w fun e w' => e = .returned (.int .i64 (q + n)) ∧ Drawn w w' := by
  go_enter Try.func22, Try.ntmps22
  go_wp2
  go_loopw [1, 5] (fun p i wr => ∃ k : Nat, k ≤ n ∧ i = .int .i64 k ∧ p = .int .i64 (q + k) ∧ Drawn w wr)
    (fun _ i _ => n - (intOf i).toNat)
  case atStart => exact ⟨0, Nat.zero_le _, rfl, by simp, Drawn.refl _⟩
  case round =>
    obtain ⟨k, hk, rfl, rfl, hD⟩ := hrel
    have hs := hD.si hs
    have HD := Lib.hid hD
    clear hD
    by_cases hlt : k < n
    · obtain ⟨b, o, rfl, hb, hc⟩ := hs.at_ (by omega)
      have hc1 := hc k hlt
      rw [marks_nth n q k hlt] at hc1
      clear hc hs
      go_wp2
      go_roundw
      case rel => exact ⟨k + 1, by omega, by go_num, by go_num, HD.out⟩
      case measure => simp [intOf]; omega
    · have hkn : k = n := by omega
      subst hkn
      go_wp2
      go_ret
      exact ⟨rfl, HD.out⟩
end Go.Proofs.Ythinbmjcdcmioaa

/-
  Slices of integers that a call owns: words and laws (appending one number, copying a whole slice, marking). No conditions beyond lengths below 2^40.
-/


namespace Go.Proofs.Ythinbmjcdcmioaa
open Go.RowKit

/-- The slice (A, n, c) holds the integers xs in a block of its own between lo and hi (or is nil). -/
def Own (w : World) (lo hi : Nat) (A : Option Addr) (n c : Nat) (xs : List Int) : Prop :=
  w.ownsRow lo 3 1 (.slice A n c) n (xs.map (Value.int .i64)) ∧ ∀ k, (Value.slice A n c).ownBlock = some k → k < hi

section
variable {w w' : World} {lo hi n c : Nat} {A : Option Addr} {xs : List Int}
theorem Own.len (h : Own w lo hi A n c xs) : xs.length = n := by simpa using h.1.1
theorem Own.si (h : Own w lo hi A n c xs) : SI w A n xs := SI.of_own h.1
theorem Own.cap (h : Own w lo hi A n c xs) : n ≤ c := by
  rcases h.1.2 with ⟨e, h0⟩ | ⟨g, cap, cur, e, _, _, hc, _⟩
  · omega
  · injection e with _ _ e3; omega
theorem Own.nil (w : World) (lo hi : Nat) : Own w lo hi none 0 0 [] := ⟨World.ownsRow_nil _ _ _ _, fun k hk => by simp [Value.ownBlock] at hk⟩
theorem Own.of (h : w.ownsRow lo 3 1 (.slice A n c) n (xs.map (Value.int .i64))) : Own w lo w.heap.size A n c xs := ⟨h, fun k hk => (h.lt k hk).2⟩
theorem Own.lt (h : Own w lo hi A n c xs) : ∀ k, (Value.slice A n c).ownBlock = some k → lo ≤ k ∧ k < hi := fun k hk => ⟨(h.1.lt k hk).1, h.2 k hk⟩
theorem Own.grown {row : Option Nat} (h : Own w lo hi A n c xs) (hg : w.grownBy w' row) (hr : ∀ g, row = some g → g < lo ∨ hi ≤ g) : Own w' lo hi A n c xs := by
  refine ⟨h.1.kept hg ?_, h.2⟩
  cases hb : (Value.slice A n c).ownBlock with
  | none => exact .inl rfl
  | some k =>
    refine .inr fun e => ?_
    have := h.lt k hb
    have := hr k e.symm
    omega
theorem Own.below {B : Nat} (h : Own w lo hi A n c xs) (hb : Below B w w') (hB : hi ≤ B) : Own w' lo hi A n c xs := by
  refine ⟨⟨h.1.1, ?_⟩, h.2⟩
  rcases h.1.2 with hn | ⟨g, cap, cur, e, hl, hg, rest⟩
  · exact .inl hn
  · have hlt := h.2 g (by rw [e]; rfl)
    exact .inr ⟨g, cap, cur, e, hl, (hb.block g (by omega)).trans hg, rest⟩
theorem Own.drawn (h : Own w lo hi A n c xs) (hd : Drawn w w') : Own w' lo hi A n c xs := h.below (hd.below hi) (Nat.le_refl _)
theorem Own.wide {lo' hi' : Nat} (h : Own w lo hi A n c xs) (h1 : lo' ≤ lo) (h2 : hi ≤ hi') : Own w lo' hi' A n c xs := by
  refine ⟨⟨h.1.1, ?_⟩, fun k hk => Nat.lt_of_lt_of_le (h.2 k hk) h2⟩
  rcases h.1.2 with hn | ⟨g, cap, cur, e, hl, rest⟩
  · exact .inl hn
  · exact .inr ⟨g, cap, cur, e, Nat.le_trans h1 hl, rest⟩
theorem Own.cellAt {g k : Nat} (h : Own w lo hi (some ⟨g, 0, none⟩) n c xs) (hk : k < n) : w.cell? ⟨g, k, none⟩ = some (.int .i64 (nth xs k)) := by
  have hl := h.len
  rw [h.1.cellAt k (by omega), List.getElem?_map, nth_get? (by omega)]; rfl
theorem Own.frozenAt {g : Nat} (h : Own w lo hi (some ⟨g, 0, none⟩) n c xs) (k : Nat) : w.frozen? ⟨g, k, none⟩ = false := h.1.frozenAt k
theorem Own.place (h : Own w lo hi A n c xs) (hn : 0 < n) : ∃ g, A = some ⟨g, 0, none⟩ ∧ lo ≤ g ∧ g < hi := by
  obtain ⟨g, cap, e, h1, h2⟩ := h.1.form hn
  have hA : A = some ⟨g, 0, none⟩ := by injection e
  subst hA
  exact ⟨g, rfl, h1, h.2 g rfl⟩
theorem Own.set_ {g k : Nat} (h : Own w lo hi (some ⟨g, 0, none⟩) n c xs) (x : Int) :
    Own (w.setCell ⟨g, k, none⟩ (.int .i64 x)) lo hi (some ⟨g, 0, none⟩) n c (xs.set k x) ∧ w.grownBy (w.setCell ⟨g, k, none⟩ (.int .i64 x)) (some g) := by
  obtain ⟨h1, h2⟩ := h.1.stored k (.int .i64 x)
  refine ⟨⟨?_, h.2⟩, h2⟩
  rw [List.map_set]
  exact h1
end
theorem Own.empty (w : World) : Own (w.alloc (.cells #[] 3)) w.heap.size (w.heap.size + 1) (some ⟨w.heap.size, 0, none⟩) 0 0 [] :=
  ⟨World.ownsRow_lit w #[] 0 (Nat.le_refl _) (Nat.zero_le _) rfl, fun k hk => by simp [Value.ownBlock] at hk; omega⟩
theorem Below.alloc_self (w : World) (o : Obj) : Below w.heap.size w (w.alloc o) := (Below.refl _ _).alloc (Nat.le_refl _) _
theorem _root_.Go.RowKit.Below.drawnN {B : Nat} {a w : World} (h : Below B a w) (n : Nat) : Below B a (w.drewN n) := h.trans ⟨rfl, rfl, rfl, Nat.le_refl _, fun _ _ => rfl⟩
theorem grow_below {B : Nat} {w w' : World} {row : Option Nat} (hg : w.grownBy w' row) (hB : B ≤ w.heap.size) (hr : ∀ k, row = some k → B ≤ k) : Below B w w' := (Below.refl B w).grown hg hB hr

/-- What a call that makes a new slice hands back. -/
def Fresh (w w' : World) (e : Ending) (ys : List Int) : Prop :=
  ∃ A n c, e = .returned (.slice A n c) ∧ Own w' w.heap.size w'.heap.size A n c ys ∧ Below w.heap.size w w'

theorem Own.apart {w w' : World} {lo hi n c lo' hi' n' c' : Nat} {A A' : Option Addr} {xs xs' : List Int} (ho : Own w lo hi A n c xs) (hx : Own w lo' hi' A' n' c' xs')
    (hg : w.grownBy w' (Value.slice A' n' c').ownBlock) (h : hi ≤ lo' ∨ hi' ≤ lo) : Own w' lo hi A n c xs :=
  ho.grown hg fun g e => by have := hx.lt g e; omega
theorem Own.mark_below {w w' : World} {B lo hi n c : Nat} {A : Option Addr} {xs : List Int} (hx : Own w lo hi A n c xs) (hg : w.grownBy w' (Value.slice A n c).ownBlock) (hB : B ≤ w.heap.size) (hl : B ≤ lo) : Below B w w' :=
  grow_below hg hB fun k e => by have := hx.lt k e; omega

theorem toIntS_fr (A : Option Addr) (n c : Nat) (xs : List Int) (w : World) (hs : SI w A n xs) (hn : n ≤ 1099511627776) :
    Calls Try.prog 16 #[.slice A n c] w fun e w' => Fresh w w' e xs :=
  (toIntS_any A n c xs w hs hn).mono fun _ _ ⟨he, ho, hb⟩ => ⟨_, _, _, he, Own.of ho, hb⟩

set_option maxHeartbeats 400000 in
/-- markIntS on any slice of the call's own, nil and empty ones among them. -/
theorem markIntS_any (A : Option Addr) (n c lo hi : Nat) (xs : List Int) (q : Int) (w : World) (hs : Own w lo hi A n c xs) (hn : n ≤ 1099511627776) (hq : 0 ≤ q) (hq' : q ≤ 1099511627776) :
    Calls Try.prog 21 #[.slice A n c, .int .i64 q] w fun e w' => e = .returned (.int .i64 (q + n)) ∧ Own w' lo hi A n c (marks n q) ∧ w.grownBy w' (Value.slice A n c).ownBlock := by
  by_cases h0 : 0 < n
  · obtain ⟨g, rfl, _, _⟩ := hs.place h0
    exact (markIntS_own g n c xs q lo w hs.1 hn hq hq').mono fun e w' ⟨he, ho, hg⟩ => ⟨he, ⟨ho, hs.2⟩, hg⟩
  · have hz : n = 0 := by omega
    subst hz
    have hx : xs = [] := List.eq_nil_of_length_eq_zero hs.len
    subst hx
    have HS := Lib.hid hs
    clear hs
    go_enter Try.func21, Try.ntmps21
    go_wp2
    refine wp_loop_rounds 1 ?_
    rw [rounds_succ]
    go_wp2
    go_ret
    exact ⟨by simp, HS.out, World.grownBy.refl _ _⟩

/-- 'make([]int, n)'. -/
theorem wpList_make_zero {ops : Array Oper} {rest : List Oper} {o : Oper} {a : Act} {w : World} {Q : Exit → Act → World → Prop} (hgd : o.guard = none) (l c : Operand) (ho : o.op = .makeSlice 22 l c)
    (n : Nat) (hl : a.eval l = .int .i64 n) (hc : a.eval c = .int .i64 n) (hn : n ≤ 1099511627776)
    (hK : ∀ w', Own w' w.heap.size w'.heap.size (some ⟨w.heap.size, 0, none⟩) n n (List.replicate n 0) → Below w.heap.size w w' → wpList Try.prog ops Q rest (a.put o.dst (.slice (some ⟨w.heap.size, 0, none⟩) n n)) w') :
    wpList Try.prog ops Q (o :: rest) a w := by
  obtain ⟨i0, hi, hz0, hz1, hz2⟩ := info_parts Try.infoInt
  refine wpList_make_full w hgd l c 22 ho w.heap.size 3 i0 (.int .i64 0) 1 Try.underlying22 hi hz0 hz1 .i64 .i64 n n n hl hc rfl rfl (by rw [hz2]; omega) (by unfold maxLen; omega) (Nat.le_refl _) ?_
  intro w1 ho1 hg1
  have e : (madeCells (Value.int .i64 0).cells (n * 1)).toList = (List.replicate n (0 : Int)).map (Value.int .i64) := by
    rw [show (Value.int .i64 0).cells = #[Value.int .i64 0] from rfl, Nat.mul_one, toList_madeCells_one]; simp
  rw [e] at ho1
  exact hK w1 (Own.of ho1) (grow_below hg1 (Nat.le_refl _) (by intro k hk; cases hk))

/-- 'out = append(out, x)' on a slice of the call's own. -/
theorem wpList_append1 {ops : Array Oper} {rest : List Oper} {o : Oper} {a : Act} {w : World} {Q : Exit → Act → World → Prop} (hgd : o.guard = none) (s x : Operand)
    (ho : o.op = .call { callee := .builtin .append, args := #[s, x], argTypes := #[22, 22] })
    (lo : Nat) (A : Option Addr) (n c : Nat) (xs : List Int) (v : Int) (hs : a.eval s = .slice A n c) (hx : a.eval x = .slice (some ⟨w.heap.size, 0, none⟩) 1 1)
    (hown : Own w lo w.heap.size A n c xs) (hlo : lo ≤ w.heap.size) (hn : n ≤ 1099511627776)
    (hK : ∀ A' c' w', Own w' lo w'.heap.size A' (n + 1) c' (xs ++ [v]) → w.grownBy w' (Value.slice A n c).ownBlock → Below lo w w' → wpList Try.prog ops Q rest (a.put o.dst (.slice A' (n + 1) c')) w') :
    wpList Try.prog ops Q (o :: rest) a (w.alloc (.cells #[.int .i64 v] 3)) := by
  obtain ⟨i0, hi, hz0, hz1, hz2⟩ := info_parts Try.infoInt
  refine wpList_append_own _ hgd s x 22 ho lo 3 i0 (.int .i64 0) 1 8 Try.underlying22 hi hz0 hz1 hz2 rfl (by decide) _ _ _ hs (hown.1.alloc _) ⟨w.heap.size, 0, none⟩ 1 1 [.int .i64 v] hx rfl ?_ ?_ (by unfold maxLen; omega) (by omega) (by simp; omega) ?_
  · intro j u hj
    match j, hj with
    | 0, hj =>
      simp at hj
      subst hj
      rw [add_pt]
      exact (Blk.new w 3 #[.int .i64 v]).cell 0
  · intro u hu
    simp at hu
    subst hu
    rfl
  · intro v' w1 ho1 hg1 _
    have e1 : List.map (Value.int .i64) xs ++ [Value.int .i64 v] = (xs ++ [v]).map (Value.int .i64) := by simp
    rw [e1] at ho1
    obtain ⟨g, cap, rfl, _, _⟩ := ho1.form (by omega)
    have hg2 : w.grownBy w1 (Value.slice A n c).ownBlock := (World.grownBy_alloc w _ _).trans hg1
    exact hK _ _ w1 (Own.of ho1) hg2 (grow_below hg2 hlo (fun k hk => (hown.1.lt k hk).1))

set_option maxRecDepth 100000 in
/-- 'append([]int{}, l...)' and the like: a whole slice appended to an empty one that was just made. -/
theorem wpList_append_all {ops : Array Oper} {rest : List Oper} {o : Oper} {a : Act} {w : World} {Q : Exit → Act → World → Prop} (hgd : o.guard = none) (s x : Operand)
    (ho : o.op = .call { callee := .builtin .append, args := #[s, x], argTypes := #[22, 22] })
    (lo : Nat) (A : Option Addr) (n c : Nat) (xs : List Int) (A2 : Option Addr) (m c2 : Nat) (ys : List Int) (hs : a.eval s = .slice A n c) (hx : a.eval x = .slice A2 m c2)
    (hown : Own w lo w.heap.size A n c xs) (hsi : SI w A2 m ys) (hlo : lo ≤ w.heap.size) (hn : n ≤ 1099511627776) (hm : m ≤ 1099511627776)
    (hK : ∀ A' c' w', Own w' lo w'.heap.size A' (n + m) c' (xs ++ ys) → w.grownBy w' (Value.slice A n c).ownBlock → Below lo w w' → wpList Try.prog ops Q rest (a.put o.dst (.slice A' (n + m) c')) w') :
    wpList Try.prog ops Q (o :: rest) a w := by
  obtain ⟨i0, hi, hz0, hz1, hz2⟩ := info_parts Try.infoInt
  by_cases h0 : 0 < m
  · obtain ⟨b, off, rfl, hb, hc⟩ := hsi.2 h0
    refine wpList_append_own _ hgd s x 22 ho lo 3 i0 (.int .i64 0) 1 8 Try.underlying22 hi hz0 hz1 hz2 rfl (by decide) _ _ _ hs hown.1 ⟨b, off, none⟩ m c2 (ys.map (Value.int .i64)) hx (by simp [hsi.1]) ?_ (ints_oneCell _ _) (by unfold maxLen; omega) (by omega) hlo ?_
    · intro j u hj
      have hjl : j < ys.length := by
        rcases Nat.lt_or_ge j ys.length with h | h
        · exact h
        · rw [List.getElem?_eq_none (by simpa using h)] at hj; cases hj
      rw [List.getElem?_map, nth_get? hjl] at hj
      rw [add_pt, hc j (by have := hsi.1; omega)]
      exact hj
    · intro v' w1 ho1 hg1 _
      rw [← List.map_append] at ho1
      obtain ⟨g, cap, rfl, _, _⟩ := ho1.form (by omega)
      exact hK _ _ w1 (Own.of ho1) hg1 (grow_below hg1 hlo (fun k hk => (hown.1.lt k hk).1))
  · have hm0 : m = 0 := by omega
    subst hm0
    have hy : ys = [] := List.eq_nil_of_length_eq_zero hsi.1
    subst hy
    have hk0 := hK A c w (by simpa using hown) (World.grownBy.refl _ _) (Below.refl _ _)
    refine wpList_plain hgd fun K hK' => ?_
    have hrun : (Builtin.append_ #[22, 22] o.type #[.slice A n c, .slice A2 0 c2]).run Try.prog w = .ok (.slice A n c) w := by
      have hg := hown.1
      have hl0 : ∀ v, (loadCells v 0).run Try.prog w = .ok #[] w := fun v => by simp [loadCells, loadCellsFrom]
      rcases hg.2 with ⟨e, h0⟩ | ⟨g, cap, cur, e, _, hgg, hnc, _⟩
      · injection e with e1 e2 e3
        subst e1; subst e3; subst h0
        cases A2 <;> simp [Builtin.append_, run_underlying Try.underlying22, sizeOf, typeInfo, hi, Builtin.lenOf, Builtin.firstCells, hl0]
      · injection e with e1 e2 e3
        subst e1; subst e3
        cases A2 <;> simp [Builtin.append_, run_underlying Try.underlying22, sizeOf, typeInfo, hi, Builtin.lenOf, Builtin.firstCells, hnc, storeCells, hl0]
    unfold Oper.wp
    simp [execOp, ho, resolve, invoke, builtin, hs, hx, hrun, Result.andThen]
    exact hK' _ _ (by simpa using hk0)
end Go.Proofs.Ythinbmjcdcmioaa

/-
  What a permutation is: the specification's test by its contract. Conditions: the length is at most 2^40.
-/

namespace Go.Proofs.Ythinbmjcdcmioaa
open Go.RowKit

/-- Is a number among the first of a list (not unfolded by the walk). -/
def hasB (xs : List Int) (x : Int) : Bool := decide (x ∈ xs)
/-- Is place k of the list one that a permutation may have. -/
def goodAt (xs : List Int) (k : Nat) : Prop := 0 ≤ nth xs k ∧ nth xs k ≤ (xs.length : Int) - 1 ∧ hasB (xs.take k) (nth xs k) = false
instance (xs : List Int) (k : Nat) : Decidable (goodAt xs k) := by unfold goodAt; infer_instance
def isPermP (xs : List Int) : Prop := 1 ≤ xs.length ∧ xs.length ≤ 7 ∧ ∀ k, k < xs.length → goodAt xs k
/-- Is the list a permutation (not unfolded by the walk). -/
def isPermB (xs : List Int) : Bool := decide (1 ≤ xs.length) && decide (xs.length ≤ 7) && (List.range xs.length).all fun k => decide (goodAt xs k)
theorem isPermB_iff (xs : List Int) : isPermB xs = true ↔ isPermP xs := by
  simp [isPermB, isPermP, and_assoc]
theorem isPermB_true {xs : List Int} (h : isPermP xs) : isPermB xs = true := (isPermB_iff xs).2 h
theorem isPermB_false {xs : List Int} (h : ¬ isPermP xs) : isPermB xs = false := by
  cases hb : isPermB xs with
  | false => rfl
  | true => exact absurd ((isPermB_iff xs).1 hb) h
theorem hasB_nil (x : Int) : hasB [] x = false := by simp [hasB]
theorem hasB_hit {xs : List Int} {k : Nat} (hk : k < xs.length) : hasB xs (nth xs k) = true := by
  rw [nth_get hk]; simp [hasB]
theorem hasB_all {xs : List Int} {x : Int} (h : ∀ j, j < xs.length → nth xs j ≠ x) : hasB xs x = false := by
  simp only [hasB, decide_eq_false_iff_not]
  intro hm
  obtain ⟨j, hj, e⟩ := List.mem_iff_getElem.1 hm
  exact h j hj (by rw [nth_get hj]; exact e)

theorem l1In_any (a lo hi : Int) (w : World) :
    Calls Try.prog 55 #[.int .i64 a, .int .i64 lo, .int .i64 hi] w fun e w' => e = .returned (.bool (decide (lo ≤ a) && decide (a ≤ hi))) ∧ w = w' := by
  by_cases h1 : lo ≤ a
  · by_cases h2 : a ≤ hi
    · go_enter Try.func55, Try.ntmps55
      go_wp2
      go_ret
      exact ⟨ret_bool (by simp [h1, h2]), rfl⟩
    · go_enter Try.func55, Try.ntmps55
      go_wp2
      go_ret
      exact ⟨ret_bool (by simp [h2]), rfl⟩
  · have h1' : a < lo := by omega
    go_enter Try.func55, Try.ntmps55
    go_wp2
    go_ret
    exact ⟨ret_bool (by simp; intro; omega), rfl⟩
theorem l1In_yes' {a lo hi : Int} (h : lo ≤ a) (h' : a ≤ hi) (w : World) :
    Calls Try.prog 55 #[.int .i64 a, .int .i64 lo, .int .i64 hi] w fun e w' => e = .returned (.bool true) ∧ w = w' := by
  have := l1In_any a lo hi w
  simpa [h, h'] using this
theorem l1In_no' {a lo hi : Int} (h : a < lo ∨ hi < a) (w : World) :
    Calls Try.prog 55 #[.int .i64 a, .int .i64 lo, .int .i64 hi] w fun e w' => e = .returned (.bool false) ∧ w = w' := by
  have e : (decide (lo ≤ a) && decide (a ≤ hi)) = false := by simp; omega
  have := l1In_any a lo hi w
  rwa [e] at this
theorem l1In_yes {a lo hi : Int} (h : lo ≤ a) (h' : a ≤ hi) (w : World) :
    Calls Try.prog 55 #[.int .i64 a, .int .i64 lo, .int .i64 hi] w fun e w' => e = .returned (.bool true) ∧ Drawn w w' :=
  (l1In_yes' h h' w).mono fun _ _ ⟨he, hw⟩ => ⟨he, hw ▸ Drawn.refl _⟩
theorem l1In_no {a lo hi : Int} (h : a < lo ∨ hi < a) (w : World) :
    Calls Try.prog 55 #[.int .i64 a, .int .i64 lo, .int .i64 hi] w fun e w' => e = .returned (.bool false) ∧ Drawn w w' :=
  (l1In_no' h w).mono fun _ _ ⟨he, hw⟩ => ⟨he, hw ▸ Drawn.refl _⟩

set_option maxHeartbeats 400000 in
theorem l1Has_any (A : Option Addr) (n c : Nat) (xs : List Int) (x : Int) (w : World) (hs : SI w A n xs) (hn : n ≤ 1099511627776) :
    Calls Try.prog 99 #[.slice A n c, .int .i64 x] w fun e w' => e = .returned (.bool (hasB xs x)) ∧ Drawn w w' := by
  have hl := hs.1
  go_enter Try.func99, Try.ntmps99
  go_wp2
  go_loopw [5] (fun i wr => ∃ k : Nat, k ≤ n ∧ i = .int .i64 k ∧ Drawn w wr ∧ ∀ j, j < k → nth xs j ≠ x)
    (fun i _ => n - (intOf i).toNat)
  case atStart => exact ⟨0, Nat.zero_le _, rfl, Drawn.refl _, fun j hj => absurd hj (by omega)⟩
  case round =>
    obtain ⟨k, hk, rfl, hD, hall⟩ := hrel
    have HA := Lib.hid hall
    have hs := hD.si hs
    have HD := Lib.hid hD
    clear hall hD
    by_cases hlt : k < n
    · obtain ⟨b, o, rfl, hb, hc⟩ := hs.at_ (by omega)
      have hc1 := hc k hlt
      have HL := Lib.hid hl
      clear hc hs hl
      by_cases heq : nth xs k = x
      · have HE := Lib.hid heq
        rw [heq] at hc1
        clear heq
        go_wp2
        go_ret
        refine ⟨ret_bool ?_, HD.out⟩
        rw [← HE.out]
        exact (hasB_hit (by have := HL.out; omega)).symm
      · have HE := Lib.hid heq
        obtain ⟨y, hy⟩ : ∃ y, y = nth xs k := ⟨_, rfl⟩
        rw [← hy] at hc1 heq
        clear hy
        have hb : (y == x) = false := by simpa using heq
        clear heq
        go_wp2
        go_roundw
        case rel => exact ⟨k + 1, by omega, by go_num, HD.out, fun j hj => by
          rcases Nat.lt_or_ge j k with h | h
          · exact HA.out j h
          · obtain rfl : j = k := by omega
            exact HE.out⟩
        case measure => simp [intOf]; omega
    · have hkn : k = n := by omega
      subst hkn
      go_wp2
      go_ret
      refine ⟨ret_bool ?_, HD.out⟩
      exact (hasB_all (by rw [hl]; exact HA.out)).symm

set_option maxHeartbeats 800000 in
theorem specIsPerm_any (A : Option Addr) (n c : Nat) (xs : List Int) (w : World) (hs : SI w A n xs) (hnc : n ≤ c) (hn : n ≤ 1099511627776) :
    Calls Try.prog 86 #[.slice A n c] w fun e w' => e = .returned (.bool (isPermB xs)) ∧ Drawn w w' := by
  have hl := hs.1
  by_cases hsz : 1 ≤ n ∧ n ≤ 7
  · obtain ⟨hs1, hs7⟩ := hsz
    go_enter Try.func86, Try.ntmps86
    go_wp2_with (go_at_call 55; refine (l1In_yes (by omega) (by omega) _).mono ?_; rintro e w1 ⟨rfl, hD1⟩)
    go_loopw [3] (fun i wr => ∃ k : Nat, k ≤ n ∧ i = .int .i64 k ∧ Drawn w wr ∧ ∀ j, j < k → goodAt xs j)
      (fun i _ => n - (intOf i).toNat)
    case atStart => exact ⟨0, Nat.zero_le _, rfl, hD1, fun j hj => absurd hj (by omega)⟩
    case round =>
      obtain ⟨k, hk, rfl, hD, hall⟩ := hrel
      have HA := Lib.hid hall
      have HL := Lib.hid hl
      have HD := Lib.hid hD
      have hs := hD.si hs
      clear hall hl hD hD1
      by_cases hlt : k < n
      · obtain ⟨b, o, e1, hb, hc⟩ := hs.at_ (by omega)
        have hst := hs.take (k := k) (by omega)
        subst e1
        have hc1 := hc k hlt
        have HST := Lib.hid hst
        clear hc hs hst
        obtain ⟨x, hx⟩ : ∃ x, x = nth xs k := ⟨_, rfl⟩
        obtain ⟨ys, hy⟩ : ∃ ys, ys = xs.take k := ⟨_, rfl⟩
        rw [← hx] at hc1
        rw [← hy] at HST
        have HX := Lib.hid hx
        have HY := Lib.hid hy
        clear hx hy
        have hlI : (k : Int) < (n : Int) := by omega
        have hwr : IntKind.i64.wrap ((n : Int) - 1) = (n : Int) - 1 := IntWalk.i64_in _ (by omega)
        by_cases hr : 0 ≤ x ∧ x ≤ (n : Int) - 1
        · obtain ⟨hx0, hx1⟩ := hr
          go_wp2_with fail
          go_quiet ((first | (go_at_call 55; go_must (refine Calls.quiet_of (l1In_yes hx0 hx1 _))) | (go_at_call 99; exact Calls.quiet_of (l1Has_any _ _ _ ys _ _ HST.out (by omega)))))
          go_wp2
          · have hh : hasB ys x = true := by assumption
            go_ret
            refine ⟨ret_bool ?_, HD.out.drewN _⟩
            refine (isPermB_false ?_).symm
            intro hp
            obtain ⟨_, _, g3⟩ := (hp.2.2 k (by have := HL.out; omega))
            rw [← HX.out, ← HY.out, hh] at g3
            cases g3
          · have hh' : hasB ys x = false := by assumption
            have HG : goodAt xs k := by
              have e1 := HX.out
              have e2 := HY.out
              have e3 := HL.out
              refine ⟨by omega, by omega, by rw [← e1, ← e2]; exact hh'⟩
            go_roundw
            case rel => exact ⟨k + 1, by omega, by go_num, HD.out.drewN _, fun j hj => by
              rcases Nat.lt_or_ge j k with h | h
              · exact HA.out j h
              · obtain rfl : j = k := by omega
                exact HG⟩
            case measure => simp [intOf]; omega
        · go_wp2_with fail
          go_quiet ((first | (go_at_call 55; exact Calls.quiet_of (l1In_no (by omega) _))))
          go_wp2
          go_ret
          refine ⟨ret_bool ?_, HD.out.drewN _⟩
          refine (isPermB_false ?_).symm
          intro hp
          have := (hp.2.2 k (by have := HL.out; omega))
          obtain ⟨g1, g2, _⟩ := this
          rw [← HX.out] at g1 g2
          rw [HL.out] at g2
          exact hr ⟨g1, g2⟩
      · have hkn : k = n := by omega
        subst hkn
        go_wp2
        go_ret
        refine ⟨ret_bool ?_, HD.out⟩
        exact (isPermB_true ⟨by have := HL.out; omega, by have := HL.out; omega, by rw [HL.out]; exact HA.out⟩).symm
  · go_enter Try.func86, Try.ntmps86
    go_wp2_with (go_at_call 55; refine (l1In_no (by omega) _).mono ?_; rintro e w1 ⟨rfl, hD1⟩)
    go_ret
    refine ⟨ret_bool ?_, hD1⟩
    exact (isPermB_false (fun hp => hsz ⟨by have := hp.1; omega, by have := hp.2.1; omega⟩)).symm
theorem specIsPerm_is {A : Option Addr} {n : Nat} (c : Nat) {xs : List Int} {w : World} {b : Bool} (hb : isPermB xs = b) (hs : SI w A n xs) (hnc : n ≤ c) (hn : n ≤ 1099511627776) :
    Calls Try.prog 86 #[.slice A n c] w fun e w' => e = .returned (.bool b) ∧ Drawn w w' := by
  subst hb; exact specIsPerm_any A n c xs w hs hnc hn
theorem isPermB_P {xs : List Int} (h : isPermB xs = true) : isPermP xs := (isPermB_iff xs).1 h
theorem isPermP.range {xs : List Int} (h : isPermP xs) (k : Nat) (hk : k < xs.length) : 0 ≤ nth xs k ∧ nth xs k < (xs.length : Int) := by
  obtain ⟨h1, h2, _⟩ := h.2.2 k hk
  omega
end Go.Proofs.Ythinbmjcdcmioaa

/-
  Contracts of the specification's functions that build lists: identity, longest. Conditions: lengths below 2^40.
-/


namespace Go.Proofs.Ythinbmjcdcmioaa
open Go.RowKit

def idL (n : Nat) : List Int := (List.range n).map fun (j : Nat) => (j : Int)
theorem idL_len (n : Nat) : (idL n).length = n := by simp [idL]
theorem idL_succ (n : Nat) : idL (n + 1) = idL n ++ [(n : Int)] := by simp [idL, List.range_succ]
/-- n-1, n-2, .., k numbers. -/
def downL (n k : Nat) : List Int := (List.range k).map fun (j : Nat) => (n : Int) - 1 - (j : Int)
theorem downL_len (n k : Nat) : (downL n k).length = k := by simp [downL]
theorem downL_succ (n k : Nat) : downL n (k + 1) = downL n k ++ [(n : Int) - 1 - (k : Int)] := by simp [downL, List.range_succ]

/-- What IdentityPerm answers. -/
def idPerm (a : Int) : List Int := if 1 ≤ a ∧ a ≤ 7 then idL a.toNat else []
theorem idPerm_small (a : Int) : (idPerm a).length ≤ 1099511627775 := by
  unfold idPerm; split
  · rw [idL_len]; omega
  · simp
def longPerm (a : Int) : List Int := if 1 ≤ a ∧ a ≤ 7 then downL a.toNat a.toNat else []
theorem longPerm_small (a : Int) : (longPerm a).length ≤ 1099511627775 := by
  unfold longPerm; split
  · rw [downL_len]; omega
  · simp
end Go.Proofs.Ythinbmjcdcmioaa

/-
  Contracts of the specification's functions: products, inverses. Conditions: lengths below 2^40.
-/

namespace Go.Proofs.Ythinbmjcdcmioaa
open Go.RowKit

/-- The first k numbers of a product. -/
def compL (u v : List Int) (k : Nat) : List Int := (List.range k).map fun i => nth u (nth v i).toNat
theorem compL_len (u v : List Int) (k : Nat) : (compL u v k).length = k := by simp [compL]
theorem compL_succ (u v : List Int) (k : Nat) : compL u v (k + 1) = compL u v k ++ [nth u (nth v k).toNat] := by simp [compL, List.range_succ]

/-- What ComposePerms answers. -/
def compPerm (us vs : List Int) : List Int := if isPermB us = true ∧ isPermB vs = true ∧ us.length = vs.length then compL us vs vs.length else []

theorem Fresh.nil_ret {w w' : World} (h : Below w.heap.size w w') : Fresh w w' (.returned (.slice none 0 0)) [] := ⟨none, 0, 0, rfl, Own.nil _ _ _, h⟩
theorem Fresh.after {w w1 w2 : World} {e : Ending} {ys : List Int} (hb : Below w.heap.size w w1) (h : Fresh w1 w2 e ys) : Fresh w w2 e ys := by
  obtain ⟨A, n, c, he, ho, hb2⟩ := h
  exact ⟨A, n, c, he, ho.wide hb.size (Nat.le_refl _), hb.trans (hb2.mono hb.size)⟩

theorem compPerm_no {us vs : List Int} (h : isPermB us = false ∨ isPermB vs = false ∨ us.length ≠ vs.length) : compPerm us vs = [] := by
  unfold compPerm
  rw [if_neg]
  rintro ⟨h1, h2, h3⟩
  rcases h with h | h | h
  · rw [h1] at h; cases h
  · rw [h2] at h; cases h
  · exact h h3
theorem compPerm_yes {us vs : List Int} (h1 : isPermB us = true) (h2 : isPermB vs = true) (h3 : us.length = vs.length) : compPerm us vs = compL us vs vs.length := by
  unfold compPerm
  rw [if_pos ⟨h1, h2, h3⟩]
theorem isPermB_small {xs : List Int} (h : isPermB xs = true) : xs.length ≤ 1099511627775 := by have := (isPermB_P h).2.1; omega
theorem compPerm_small (us vs : List Int) : (compPerm us vs).length ≤ 1099511627775 := by
  unfold compPerm
  split
  · rename_i h
    rw [compL_len]; exact isPermB_small h.2.1
  · simp
/-- The inverse, k places filled. -/
def invM (xs : List Int) (n k : Nat) : List Int := (List.range k).foldl (fun acc i => acc.set (nth xs i).toNat (i : Int)) (List.replicate n 0)
theorem invM_succ (xs : List Int) (n k : Nat) : invM xs n (k + 1) = (invM xs n k).set (nth xs k).toNat (k : Int) := by simp [invM, List.range_succ]
theorem invM_len (xs : List Int) (n k : Nat) : (invM xs n k).length = n := by
  induction k with
  | zero => simp [invM]
  | succ k ih => rw [invM_succ]; simpa using ih

/-- What InversePerm answers. -/
def invPerm (xs : List Int) : List Int := if isPermB xs = true then invM xs xs.length xs.length else []
theorem invPerm_no {xs : List Int} (h : isPermB xs = false) : invPerm xs = [] := by unfold invPerm; rw [if_neg (by rw [h]; decide)]
theorem invPerm_yes {xs : List Int} (h : isPermB xs = true) : invPerm xs = invM xs xs.length xs.length := by unfold invPerm; rw [if_pos h]
theorem invPerm_small (xs : List Int) : (invPerm xs).length ≤ 1099511627775 := by
  unfold invPerm
  split
  · rename_i h
    rw [invM_len]; exact isPermB_small h
  · simp
end Go.Proofs.Ythinbmjcdcmioaa

/-
  Contracts of the specification's codes, lengths and descents. Conditions: lengths below 2^40.
-/

namespace Go.Proofs.Ythinbmjcdcmioaa
open Go.RowKit

/-- How many of the places behind i and before j have a smaller number. -/
def codeCnt (xs : List Int) (i : Nat) : Nat → Nat
  | 0 => 0
  | j + 1 => codeCnt xs i j + if i < j ∧ nth xs j < nth xs i then 1 else 0
theorem codeCnt_le (xs : List Int) (i j : Nat) : codeCnt xs i j ≤ j := by
  induction j with
  | zero => exact Nat.le_refl _
  | succ j ih => unfold codeCnt; split <;> omega
theorem codeCnt_low (xs : List Int) (i j : Nat) (h : j ≤ i + 1) : codeCnt xs i j = 0 := by
  induction j with
  | zero => rfl
  | succ j ih => unfold codeCnt; rw [ih (by omega), if_neg (by omega)]
theorem codeCnt_hit {xs : List Int} {i j : Nat} (h : i < j) (hx : nth xs j < nth xs i) : codeCnt xs i (j + 1) = codeCnt xs i j + 1 := by
  show codeCnt xs i j + (if i < j ∧ nth xs j < nth xs i then 1 else 0) = _
  rw [if_pos ⟨h, hx⟩]
theorem codeCnt_miss {xs : List Int} {i j : Nat} (hx : ¬ nth xs j < nth xs i) : codeCnt xs i (j + 1) = codeCnt xs i j := by
  show codeCnt xs i j + (if i < j ∧ nth xs j < nth xs i then 1 else 0) = _
  rw [if_neg (fun h => hx h.2)]; rfl
/-- The code, k places filled. -/
def codeL (xs : List Int) (n k : Nat) : List Int := (List.range n).map fun i => if i < k then (codeCnt xs i n : Int) else 0
theorem codeL_len (xs : List Int) (n k : Nat) : (codeL xs n k).length = n := by simp [codeL]
theorem codeL_nth (xs : List Int) (n k i : Nat) (h : i < n) : nth (codeL xs n k) i = if i < k then (codeCnt xs i n : Int) else 0 := by
  rw [nth_get (by rw [codeL_len]; exact h)]; simp [codeL]
theorem codeL_zero (xs : List Int) (n : Nat) : codeL xs n 0 = List.replicate n 0 := by
  apply List.ext_getElem (by simp [codeL])
  intro j h1 h2; simp [codeL]
theorem codeL_set0 (xs : List Int) (n k : Nat) (_h : k < n) : (codeL xs n k).set k 0 = codeL xs n k := by
  apply List.ext_getElem (by simp)
  intro j h1 h2
  rw [List.getElem_set]
  split
  · rename_i e; subst e; simp [codeL]
  · rfl
theorem codeL_set (xs : List Int) (n k : Nat) (_h : k < n) : (codeL xs n k).set k (codeCnt xs k n : Int) = codeL xs n (k + 1) := by
  apply List.ext_getElem (by simp [codeL])
  intro j h1 h2
  rw [List.getElem_set]
  simp only [codeL, List.getElem_map, List.getElem_range]
  by_cases e : k = j
  · subst e; simp
  · rw [if_neg e]
    by_cases h3 : j < k
    · rw [if_pos h3, if_pos (by omega)]
    · rw [if_neg h3, if_neg (by omega)]

/-- The sum of the first k numbers. -/
def sumN (xs : List Int) : Nat → Int
  | 0 => 0
  | k + 1 => sumN xs k + nth xs k
set_option maxHeartbeats 400000 in
theorem l1Sum_any (A : Option Addr) (n c : Nat) (xs : List Int) (w : World) (hs : SI w A n xs) (hn : n ≤ 1099511627776) (hb : ∀ k, k ≤ n → -1099511627776 ≤ sumN xs k ∧ sumN xs k ≤ 1099511627776) :
    Calls Try.prog 75 #[.slice A n c] w fun e w' => e = .returned (.int .i64 (sumN xs n)) ∧ Drawn w w' := by
  have HBd := Lib.hid hb
  clear hb
  go_enter Try.func75, Try.ntmps75
  go_wp2
  go_loopw [3, 4] (fun v i wr => ∃ k : Nat, k ≤ n ∧ i = .int .i64 k ∧ v = .int .i64 (sumN xs k) ∧ Drawn w wr)
    (fun _ i _ => n - (intOf i).toNat)
  case atStart => exact ⟨0, Nat.zero_le _, rfl, rfl, Drawn.refl _⟩
  case round =>
    obtain ⟨k, hk, rfl, rfl, hD⟩ := hrel
    have hs := hD.si hs
    have HD := Lib.hid hD
    clear hD
    by_cases hlt : k < n
    · obtain ⟨b, o, rfl, hb, hc⟩ := hs.at_ (by omega)
      have hc1 := hc k hlt
      obtain ⟨x, hx⟩ : ∃ x, x = nth xs k := ⟨_, rfl⟩
      obtain ⟨y, hy⟩ : ∃ y, y = sumN xs k := ⟨_, rfl⟩
      have h1 := HBd.out k (by omega)
      have h2 := HBd.out (k + 1) (by omega)
      have e : sumN xs (k + 1) = sumN xs k + nth xs k := rfl
      rw [← hx, ← hy] at e
      rw [e] at h2
      rw [← hy] at h1 ⊢
      rw [← hx] at hc1
      obtain ⟨h21, h22⟩ := h2
      have HE := Lib.hid e
      clear hc hs hx hy e
      go_wp2
      go_roundw
      case rel => exact ⟨k + 1, by omega, by go_num, by rw [HE.out], HD.out⟩
      case measure => simp [intOf]; omega
    · have hkn : k = n := by omega
      subst hkn
      go_wp2
      go_ret
      exact ⟨rfl, HD.out⟩

theorem sumN_code (xs : List Int) (n : Nat) (h7 : n ≤ 7) : ∀ k, k ≤ n → 0 ≤ sumN (codeL xs n n) k ∧ sumN (codeL xs n n) k ≤ 7 * (k : Int) := by
  intro k
  induction k with
  | zero => intro _; exact ⟨Int.le_refl _, by simp [sumN]⟩
  | succ k ih =>
    intro hk
    obtain ⟨h1, h2⟩ := ih (by omega)
    have e : sumN (codeL xs n n) (k + 1) = sumN (codeL xs n n) k + nth (codeL xs n n) k := rfl
    rw [e, codeL_nth _ _ _ _ (by omega), if_pos (by omega)]
    have := codeCnt_le xs k n
    omega
/-- The length of a permutation, by its code. -/
def lenL (xs : List Int) : Int := sumN (codeL xs xs.length xs.length) xs.length
theorem lenL_bounds {xs : List Int} (h7 : xs.length ≤ 7) : 0 ≤ lenL xs ∧ lenL xs ≤ 49 := by
  have := sumN_code xs xs.length h7 xs.length (Nat.le_refl _)
  unfold lenL
  omega
/-- What LengthOf answers. -/
def lenPerm (xs : List Int) : Int := if isPermB xs = true then lenL xs else -1
theorem lenPerm_no {xs : List Int} (h : isPermB xs = false) : lenPerm xs = -1 := by unfold lenPerm; rw [if_neg (by rw [h]; decide)]
theorem lenPerm_yes {xs : List Int} (h : isPermB xs = true) : lenPerm xs = lenL xs := by unfold lenPerm; rw [if_pos h]
/-- What CodeOf answers. -/
def codePerm (xs : List Int) : List Int := if isPermB xs = true then codeL xs xs.length xs.length else []
theorem codePerm_no {xs : List Int} (h : isPermB xs = false) : codePerm xs = [] := by unfold codePerm; rw [if_neg (by rw [h]; decide)]
theorem codePerm_yes {xs : List Int} (h : isPermB xs = true) : codePerm xs = codeL xs xs.length xs.length := by unfold codePerm; rw [if_pos h]
theorem codePerm_small (xs : List Int) : (codePerm xs).length ≤ 1099511627775 := by
  unfold codePerm
  split
  · rename_i h
    rw [codeL_len]; exact isPermB_small h
  · simp
/-- The descents among the first k places. -/
def descL (xs : List Int) : Nat → List Int
  | 0 => []
  | k + 1 => if nth xs (k + 1) < nth xs k then descL xs k ++ [(k : Int)] else descL xs k
theorem descL_len (xs : List Int) (k : Nat) : (descL xs k).length ≤ k := by
  induction k with
  | zero => exact Nat.le_refl _
  | succ k ih =>
    unfold descL
    split
    · simp; omega
    · omega
theorem descL_hit {xs : List Int} {k : Nat} (h : nth xs (k + 1) < nth xs k) : descL xs (k + 1) = descL xs k ++ [(k : Int)] := by
  show (if nth xs (k + 1) < nth xs k then descL xs k ++ [(k : Int)] else descL xs k) = _
  rw [if_pos h]
theorem descL_miss {xs : List Int} {k : Nat} (h : ¬ nth xs (k + 1) < nth xs k) : descL xs (k + 1) = descL xs k := by
  show (if nth xs (k + 1) < nth xs k then descL xs k ++ [(k : Int)] else descL xs k) = _
  rw [if_neg h]
def descPerm (xs : List Int) : List Int := if isPermB xs = true then descL xs (xs.length - 1) else []
theorem descPerm_no {xs : List Int} (h : isPermB xs = false) : descPerm xs = [] := by unfold descPerm; rw [if_neg (by rw [h]; decide)]
theorem descPerm_yes {xs : List Int} (h : isPermB xs = true) : descPerm xs = descL xs (xs.length - 1) := by unfold descPerm; rw [if_pos h]
theorem descPerm_small (xs : List Int) : (descPerm xs).length ≤ 1099511627775 := by
  unfold descPerm
  split
  · rename_i h
    have := descL_len xs (xs.length - 1)
    have := isPermB_small h
    omega
  · simp
set_option maxHeartbeats 800000 in
theorem specDescents_any (A : Option Addr) (n c : Nat) (xs : List Int) (w : World) (hs : SI w A n xs) (hnc : n ≤ c) (hn : n ≤ 1099511627776) :
    Calls Try.prog 67 #[.slice A n c] w fun e w' => Fresh w w' e (descPerm xs) := by
  have hl := hs.1
  cases hu : isPermB xs with
  | false =>
    have HE := Lib.hid (descPerm_no hu)
    have HU := Lib.hid hu
    clear hu
    go_enter Try.func67, Try.ntmps67
    go_wp2_with fail
    refine (specIsPerm_is c HU.out hs hnc hn).mono ?_
    rintro e w1 ⟨rfl, hd1⟩
    go_wp2
    go_ret
    rw [HE.out]
    exact Fresh.nil_ret (hd1.below _)
  | true =>
    have HE := Lib.hid (descPerm_yes hu)
    have HU := Lib.hid hu
    have hpos : 1 ≤ n := by have := (isPermB_P hu).1; omega
    have HL := Lib.hid hl
    clear hu hl
    go_enter Try.func67, Try.ntmps67
    go_wp2_with fail
    refine (specIsPerm_is c HU.out hs hnc hn).mono ?_
    rintro e w1 ⟨rfl, hd1⟩
    have hs1 := hd1.si hs
    have HD := Lib.hid hd1
    clear hs hd1
    go_wp2
    go_loopw [3, 4] (fun v i wr => ∃ (k m : Nat) (A : Option Addr) (c : Nat), k + 1 ≤ n ∧ i = .int .i64 k ∧ v = .slice A m c ∧ Own wr w1.heap.size wr.heap.size A m c (descL xs k) ∧ Below w1.heap.size w1 wr)
      (fun _ i _ => n - (intOf i).toNat)
    case atStart => exact ⟨0, 0, _, _, by omega, rfl, rfl, (Own.empty w1).wide (Nat.le_refl _) (by simp), Below.alloc_self _ _⟩
    case round =>
      obtain ⟨k, m, A0, c0, hk, rfl, rfl, hown, hbel⟩ := hrel
      have HO := Lib.hid hown
      have HB := Lib.hid hbel
      have hm : m ≤ 1099511627775 := by
        have h1 := HO.out.len
        have h2 := descL_len xs k
        have := (isPermB_P HU.out).2.1
        have := HL.out
        omega
      by_cases hlt : k + 1 < n
      · obtain ⟨b, o, e1, hb, hc⟩ := (hs1.below hbel (Nat.le_refl _)).at_ (by omega)
        have hck := hc k (by omega)
        have hck1 := hc (k + 1) hlt
        obtain ⟨x, hx⟩ : ∃ x, x = nth xs k := ⟨_, rfl⟩
        obtain ⟨y, hy⟩ : ∃ y, y = nth xs (k + 1) := ⟨_, rfl⟩
        rw [← hx] at hck
        rw [← hy] at hck1
        have HX := Lib.hid hx
        have HY := Lib.hid hy
        subst e1
        clear hc hx hy hs1 hown hbel
        have hlI : (k : Int) < (n : Int) := by omega
        have hlI1 : (k : Int) + 1 < (n : Int) := by omega
        have hw1 : IntKind.i64.wrap ((k : Int) + 1) = (k : Int) + 1 := IntWalk.i64_in _ (by omega)
        have hn1 : ((k : Int) + 1).toNat = k + 1 := by omega
        have h01 : (0 : Int) ≤ (k : Int) + 1 := by omega
        by_cases hxy : y < x
        · go_wp2_with fail
          go_quiet (fail)
          clear hw1 hn1 h01
          go_wp2_with (at_builtin; refine wpList_append1 rfl (.tmp 26) (.tmp 28) rfl w1.heap.size A0 m c0 (descL xs k) (k : Int) rfl rfl (HO.out.drawn ⟨_, rfl⟩) HB.out.size (by omega) ?_; intro A' c' w3 ho3 _ hb3)
          go_roundw
          case rel =>
            have e1 := HX.out
            have e2 := HY.out
            exact ⟨k + 1, _, _, _, by omega, by go_num, rfl, by rw [descL_hit (by omega)]; exact ho3, (HB.out.drawnN _).trans hb3⟩
          case measure => simp [intOf]; omega
        · go_wp2_with fail
          go_quiet (fail)
          clear hw1 hn1 h01
          go_wp2
          go_roundw
          case rel =>
            have e1 := HX.out
            have e2 := HY.out
            exact ⟨k + 1, _, _, _, by omega, by go_num, rfl, by rw [descL_miss (by omega)]; exact HO.out.drawn ⟨_, rfl⟩, HB.out.drawnN _⟩
          case measure => simp [intOf]; omega
      · have hkn : n = k + 1 := by omega
        subst hkn
        clear hown hbel hs1
        go_wp2
        go_ret
        rw [HE.out, HL.out, Nat.add_sub_cancel]
        exact Fresh.after (HD.out.below _) ⟨A0, _, c0, rfl, HO.out, HB.out⟩
end Go.Proofs.Ythinbmjcdcmioaa

/-
  Terms and polynomials as lists: keys, their order, when a list of terms is a polynomial. Plain lemmas. No conditions.
-/

namespace Go.Proofs.Ythinbmjcdcmioaa
open Go.RowKit

/-- A term: its exponents and its number. -/
abbrev Tm := List Int × Int
def tm (ts : List Tm) (k : Nat) : Tm := ts.getD k ([], 0)
theorem tm_get {ts : List Tm} {k : Nat} (h : k < ts.length) : tm ts k = ts[k] := by simp [tm, List.getD, h]
theorem tm_get? {ts : List Tm} {k : Nat} (h : k < ts.length) : ts[k]? = some (tm ts k) := by simp [tm, List.getD, h]
theorem take_tm {ts : List Tm} {k : Nat} (h : k < ts.length) : ts.take (k + 1) = ts.take k ++ [tm ts k] := by
  rw [List.take_succ_eq_append_getElem h, tm_get h]
theorem tm_app_lt {ts us : List Tm} {k : Nat} (h : k < ts.length) : tm (ts ++ us) k = tm ts k := by simp [tm, List.getD, List.getElem?_append, h]
theorem tm_app_at {ts : List Tm} {t : Tm} : tm (ts ++ [t]) ts.length = t := by simp [tm, List.getD]
theorem tm_ext {ts us : List Tm} (hl : ts.length = us.length) (h : ∀ j, j < ts.length → tm ts j = tm us j) : ts = us := by
  apply List.ext_getElem hl
  intro j h1 h2
  have := h j h1
  rwa [tm_get h1, tm_get h2] at this

/-- The key of exponents: seven bits for each, the last in front. -/
def key7 (e : List Int) : Int := e.foldr (fun x k => k * 128 + x) 0
theorem key7_drop {e : List Int} {i : Nat} (h : i < e.length) : key7 (e.drop i) = key7 (e.drop (i + 1)) * 128 + nth e i := by
  rw [List.drop_eq_getElem_cons h, nth_get h]; rfl
/-- All exponents are from 0 to 24. -/
def smallE (e : List Int) : Bool := e.all fun x => decide (0 ≤ x ∧ x ≤ 24)
theorem smallE_nth {e : List Int} (h : smallE e = true) {k : Nat} (hk : k < e.length) : 0 ≤ nth e k ∧ nth e k ≤ 24 := by
  rw [nth_get hk]
  have := List.all_eq_true.1 h _ (List.getElem_mem hk)
  simpa using this
theorem smallE_all {e : List Int} (h : ∀ k, k < e.length → 0 ≤ nth e k ∧ nth e k ≤ 24) : smallE e = true := by
  apply List.all_eq_true.2
  intro x hx
  obtain ⟨k, hk, rfl⟩ := List.getElem_of_mem hx
  have := h k hk
  rw [nth_get hk] at this
  simpa using this
theorem smallE_no {e : List Int} {k : Nat} (hk : k < e.length) (h : nth e k < 0 ∨ 24 < nth e k) : smallE e = false := by
  cases hb : smallE e with
  | false => rfl
  | true => have := smallE_nth hb hk; omega
theorem key7_bound : ∀ (e : List Int), (∀ k, k < e.length → 0 ≤ nth e k ∧ nth e k ≤ 24) → 0 ≤ key7 e ∧ key7 e < 128 ^ e.length
  | [], _ => by simp [key7]
  | x :: e, h => by
    have ih := key7_bound e (fun k hk => by have := h (k + 1) (by simp; omega); simpa [nth] using this)
    have h0 := h 0 (by simp)
    have h1 : nth (x :: e) 0 = x := by simp [nth]
    rw [h1] at h0
    have e1 : key7 (x :: e) = key7 e * 128 + x := rfl
    rw [e1, List.length_cons, Int.pow_succ]
    omega
theorem key7_lt : ∀ (a b : List Int) (i : Nat), a.length = b.length → (∀ k, k < a.length → 0 ≤ nth a k ∧ nth a k ≤ 127) → (∀ k, k < b.length → 0 ≤ nth b k ∧ nth b k ≤ 127) → i < a.length →
    (∀ j, i < j → j < a.length → nth a j = nth b j) → nth a i < nth b i → key7 a < key7 b
  | [], _, i, _, _, _, hi, _, _ => absurd hi (by simp)
  | x :: a, [], i, hl, _, _, _, _, _ => absurd hl (by simp)
  | x :: a, y :: b, 0, hl, ha, hb, hi, he, hx => by
    have e1 : key7 (x :: a) = key7 a * 128 + x := rfl
    have e2 : key7 (y :: b) = key7 b * 128 + y := rfl
    have e3 : a = b := by
      apply List.ext_getElem (by simpa using hl)
      intro j h1 h2
      have := he (j + 1) (by omega) (by simp; omega)
      simpa [nth, h1, h2] using this
    have h0 : x < y := by simpa [nth] using hx
    rw [e1, e2, e3]
    omega
  | x :: a, y :: b, i + 1, hl, ha, hb, hi, he, hx => by
    have e1 : key7 (x :: a) = key7 a * 128 + x := rfl
    have e2 : key7 (y :: b) = key7 b * 128 + y := rfl
    have ih := key7_lt a b i (by simpa using hl) (fun k hk => by have := ha (k + 1) (by simp; omega); simpa [nth] using this) (fun k hk => by have := hb (k + 1) (by simp; omega); simpa [nth] using this) (by simpa using hi)
      (fun j h1 h2 => by have := he (j + 1) (by omega) (by simp; omega); simpa [nth] using this) (by simpa [nth] using hx)
    have ha0 := ha 0 (by simp)
    have hb0 := hb 0 (by simp)
    have h1 : nth (x :: a) 0 = x := by simp [nth]
    have h2 : nth (y :: b) 0 = y := by simp [nth]
    rw [h1] at ha0
    rw [h2] at hb0
    rw [e1, e2]
    omega

/-- A term with seven exponents from 0 to 24 and a number other than 0 of at most a million. -/
def goodT (t : Tm) : Bool := decide (t.1.length = 7) && smallE t.1 && decide (t.2 ≠ 0 ∧ -1000000 ≤ t.2 ∧ t.2 ≤ 1000000)
theorem goodT_iff (t : Tm) : goodT t = true ↔ t.1.length = 7 ∧ smallE t.1 = true ∧ t.2 ≠ 0 ∧ -1000000 ≤ t.2 ∧ t.2 ≤ 1000000 := by
  simp [goodT, and_assoc]
theorem goodT_no {t : Tm} (h : ¬ (t.1.length = 7 ∧ smallE t.1 = true ∧ t.2 ≠ 0 ∧ -1000000 ≤ t.2 ∧ t.2 ≤ 1000000)) : goodT t = false := by
  cases hb : goodT t with
  | false => rfl
  | true => exact absurd ((goodT_iff t).1 hb) h
/-- Term k is good and stands behind the one ahead of it. -/
def okAt (ts : List Tm) (k : Nat) : Bool := goodT (tm ts k) && (decide (k = 0) || decide (key7 (tm ts k).1 < key7 (tm ts (k - 1)).1))
def polyB (ts : List Tm) : Bool := decide (ts.length ≤ 600) && (List.range ts.length).all fun k => okAt ts k
theorem polyB_big {ts : List Tm} (h : 600 < ts.length) : polyB ts = false := by simp [polyB]; omega
theorem polyB_all {ts : List Tm} (h : ts.length ≤ 600) (hk : ∀ k, k < ts.length → okAt ts k = true) : polyB ts = true := by
  simp only [polyB, Bool.and_eq_true, decide_eq_true_eq, List.all_eq_true, List.mem_range]
  exact ⟨h, hk⟩
theorem polyB_len {ts : List Tm} (h : polyB ts = true) : ts.length ≤ 600 := by
  simp only [polyB, Bool.and_eq_true, decide_eq_true_eq] at h
  exact h.1
theorem polyB_ok {ts : List Tm} (h : polyB ts = true) {k : Nat} (hk : k < ts.length) : okAt ts k = true := by
  simp only [polyB, Bool.and_eq_true, decide_eq_true_eq, List.all_eq_true, List.mem_range] at h
  exact h.2 k hk
theorem polyB_good {ts : List Tm} (h : polyB ts = true) {k : Nat} (hk : k < ts.length) : goodT (tm ts k) = true := by
  have := polyB_ok h hk
  simp only [okAt, Bool.and_eq_true] at this
  exact this.1
theorem polyB_no {ts : List Tm} {k : Nat} (hk : k < ts.length) (h : okAt ts k = false) : polyB ts = false := by
  cases hb : polyB ts with
  | false => rfl
  | true => have := polyB_ok hb hk; rw [h] at this; cases this
theorem okAt_good {ts : List Tm} {k : Nat} (h : okAt ts k = true) : goodT (tm ts k) = true := by
  simp only [okAt, Bool.and_eq_true] at h
  exact h.1
theorem okAt_bad {ts : List Tm} {k : Nat} (h : goodT (tm ts k) = false) : okAt ts k = false := by simp [okAt, h]
theorem okAt_zero {ts : List Tm} (h : goodT (tm ts 0) = true) : okAt ts 0 = true := by simp [okAt, h]
theorem okAt_step {ts : List Tm} {k : Nat} (h : goodT (tm ts k) = true) (hk : key7 (tm ts k).1 < key7 (tm ts (k - 1)).1) : okAt ts k = true := by simp [okAt, h, hk]
theorem okAt_wrong {ts : List Tm} {k : Nat} (h0 : 0 < k) (hk : ¬ key7 (tm ts k).1 < key7 (tm ts (k - 1)).1) : okAt ts k = false := by
  have : k ≠ 0 := by omega
  simp [okAt, hk, this]
end Go.Proofs.Ythinbmjcdcmioaa

/-
  Slices of terms in memory: how they read, and slices of terms that a call owns. Plain lemmas. No conditions.
-/


namespace Go.Proofs.Ythinbmjcdcmioaa
open Go.RowKit

/-- The slice (A, n) reads as the terms ts. -/
def TS (w : World) (A : Option Addr) (n : Nat) (ts : List Tm) : Prop :=
  ts.length = n ∧ (0 < n → ∃ b o, A = some ⟨b, o, none⟩ ∧ b < w.heap.size ∧ ∀ k, k < n → ∃ A' n' c', w.cell? ⟨b, o + k * 2, none⟩ = some (.slice A' n' c') ∧
    w.cell? ⟨b, o + k * 2 + 1, none⟩ = some (.int .i64 (tm ts k).2) ∧ SI w A' n' (tm ts k).1 ∧ n' ≤ c' ∧ (A' = none → n' = 0 ∧ c' = 0))
section
variable {w w' : World} {A : Option Addr} {n : Nat} {ts : List Tm}
theorem TS.nil (w : World) (A : Option Addr) : TS w A 0 [] := ⟨rfl, fun h => absurd h (by omega)⟩
theorem TS.at_ (h : TS w A n ts) {k : Nat} (hk : k < n) : ∃ b o A' n' c', A = some ⟨b, o, none⟩ ∧ b < w.heap.size ∧ w.cell? ⟨b, o + k * 2, none⟩ = some (.slice A' n' c') ∧
    w.cell? ⟨b, o + k * 2 + 1, none⟩ = some (.int .i64 (tm ts k).2) ∧ SI w A' n' (tm ts k).1 ∧ n' ≤ c' ∧ (A' = none → n' = 0 ∧ c' = 0) := by
  obtain ⟨b, o, e, hb, hc⟩ := h.2 (by omega)
  obtain ⟨A', n', c', h1⟩ := hc k hk
  exact ⟨b, o, A', n', c', e, hb, h1⟩
theorem TS.below {B : Nat} (h : TS w A n ts) (hb : Below B w w') (hB : w.heap.size ≤ B) : TS w' A n ts :=
  ⟨h.1, fun hn => by
    obtain ⟨b, o, e, hl, hc⟩ := h.2 hn
    have hs := hb.size
    refine ⟨b, o, e, by omega, fun k hk => ?_⟩
    obtain ⟨A', n', c', h1, h2, h3, h4⟩ := hc k hk
    exact ⟨A', n', c', (hb.cell (p := ⟨b, o + k * 2, none⟩) (by show b < B; omega)).trans h1, (hb.cell (p := ⟨b, o + k * 2 + 1, none⟩) (by show b < B; omega)).trans h2, h3.below hb hB, h4⟩⟩
theorem TS.drewN (h : TS w A n ts) (k : Nat) : TS (w.drewN k) A n ts := h
theorem TS.drawn (h : TS w A n ts) (hd : Drawn w w') : TS w' A n ts := by obtain ⟨m, rfl⟩ := hd; exact h
theorem TS.alloc (h : TS w A n ts) (o : Obj) : TS (w.alloc o) A n ts := h.below ((Below.refl w.heap.size w).alloc (Nat.le_refl _) o) (Nat.le_refl _)
end

/-- A list of pairs of cells. -/
def cells2 (n : Nat) (f : Nat → Value × Value) : List Value := (List.range (n * 2)).map fun j => if j % 2 = 0 then (f (j / 2)).1 else (f (j / 2)).2
theorem cells2_len (n : Nat) (f : Nat → Value × Value) : (cells2 n f).length = n * 2 := by simp [cells2]
theorem cells2_get {n : Nat} (f : Nat → Value × Value) {j : Nat} (h : j < n * 2) : (cells2 n f)[j]? = some (if j % 2 = 0 then (f (j / 2)).1 else (f (j / 2)).2) := by
  simp [cells2, h]
theorem cells2_get0 {n : Nat} (f : Nat → Value × Value) {k : Nat} (h : k < n) : (cells2 n f)[k * 2]? = some (f k).1 := by
  rw [cells2_get f (by omega), if_pos (by omega), show k * 2 / 2 = k by omega]
theorem cells2_get1 {n : Nat} (f : Nat → Value × Value) {k : Nat} (h : k < n) : (cells2 n f)[k * 2 + 1]? = some (f k).2 := by
  rw [cells2_get f (by omega), if_neg (by omega), show (k * 2 + 1) / 2 = k by omega]
theorem cells2_congr {n : Nat} {f g : Nat → Value × Value} (h : ∀ k, k < n → f k = g k) : cells2 n f = cells2 n g := by
  apply List.map_congr_left
  intro j hj
  have := List.mem_range.1 hj
  rw [h (j / 2) (by omega)]
theorem cells2_set0 {n : Nat} (f : Nat → Value × Value) {k : Nat} (_h : k < n) (v : Value) : (cells2 n f).set (k * 2) v = cells2 n (fun j => if j = k then (v, (f j).2) else f j) := by
  apply List.ext_getElem?
  intro j
  by_cases hj : j < n * 2
  · rw [cells2_get _ hj]
    by_cases e : j = k * 2
    · subst e
      rw [List.getElem?_set_self (by rw [cells2_len]; omega), if_pos (by omega), show k * 2 / 2 = k by omega, if_pos rfl]
    · rw [List.getElem?_set_ne (by omega), cells2_get _ hj]
      by_cases e2 : j / 2 = k
      · rw [if_neg (by omega), if_neg (by omega), if_pos e2]
      · rw [if_neg e2]
  · rw [List.getElem?_eq_none (by simp [cells2_len]; omega), List.getElem?_eq_none (by simp [cells2_len]; omega)]
theorem cells2_set1 {n : Nat} (f : Nat → Value × Value) {k : Nat} (_h : k < n) (v : Value) : (cells2 n f).set (k * 2 + 1) v = cells2 n (fun j => if j = k then ((f j).1, v) else f j) := by
  apply List.ext_getElem?
  intro j
  by_cases hj : j < n * 2
  · rw [cells2_get _ hj]
    by_cases e : j = k * 2 + 1
    · subst e
      rw [List.getElem?_set_self (by rw [cells2_len]; omega), if_neg (by omega), show (k * 2 + 1) / 2 = k by omega, if_pos rfl]
    · rw [List.getElem?_set_ne (by omega), cells2_get _ hj]
      by_cases e2 : j / 2 = k
      · rw [if_pos (by omega), if_pos (by omega), if_pos e2]
      · rw [if_neg e2]
  · rw [List.getElem?_eq_none (by simp [cells2_len]; omega), List.getElem?_eq_none (by simp [cells2_len]; omega)]
theorem cells2_app (n : Nat) (f : Nat → Value × Value) (a b : Value) : cells2 n f ++ [a, b] = cells2 (n + 1) (fun j => if j = n then (a, b) else f j) := by
  apply List.ext_getElem?
  intro j
  by_cases hj : j < n * 2
  · rw [List.getElem?_append_left (by rw [cells2_len]; exact hj), cells2_get _ hj, cells2_get _ (by omega), if_neg (show ¬ j / 2 = n by omega)]
  · rw [List.getElem?_append_right (by rw [cells2_len]; omega), cells2_len]
    by_cases h1 : j = n * 2
    · subst h1
      rw [cells2_get _ (by omega), if_pos (by omega), if_pos (by omega)]; simp
    · by_cases h2 : j = n * 2 + 1
      · subst h2
        rw [cells2_get _ (by omega), if_neg (by omega), if_pos (by omega)]; simp
      · rw [List.getElem?_eq_none (by simp; omega), List.getElem?_eq_none (by simp [cells2_len]; omega)]

abbrev Sv := Option Addr × Nat × Nat
def sv (e : Sv) : Value := .slice e.1 e.2.1 e.2.2
section
variable {w w' : World} {lo hi n c : Nat} {A : Option Addr} {ts : List Tm}
theorem Own.nilcap {xs : List Int} (h : Own w lo hi none n c xs) : n = 0 ∧ c = 0 := by
  rcases h.1.2 with ⟨e, h0⟩ | ⟨g, cap, cur, e, _⟩
  · injection e with _ _ e3; exact ⟨h0, e3⟩
  · injection e with e1; cases e1
end
/-- Nothing outside lo .. hi was changed. -/
def Within (lo hi : Nat) (w w' : World) : Prop := w'.os = w.os ∧ w'.tape = w.tape ∧ w'.output = w.output ∧ w.heap.size ≤ w'.heap.size ∧ ∀ k, k < w.heap.size → k < lo ∨ hi ≤ k → w'.heap[k]? = w.heap[k]?
theorem Within.refl (lo hi : Nat) (w : World) : Within lo hi w w := ⟨rfl, rfl, rfl, Nat.le_refl _, fun _ _ _ => rfl⟩
theorem Within.trans {lo hi : Nat} {w w' w'' : World} (h : Within lo hi w w') (h' : Within lo hi w' w'') : Within lo hi w w'' :=
  ⟨h'.1.trans h.1, h'.2.1.trans h.2.1, h'.2.2.1.trans h.2.2.1, Nat.le_trans h.2.2.2.1 h'.2.2.2.1, fun k h0 hk => (h'.2.2.2.2 k (Nat.lt_of_lt_of_le h0 h.2.2.2.1) hk).trans (h.2.2.2.2 k h0 hk)⟩
theorem Within.size {lo hi : Nat} {w w' : World} (h : Within lo hi w w') : w.heap.size ≤ w'.heap.size := h.2.2.2.1
theorem Within.below {lo hi B : Nat} {w w' : World} (h : Within lo hi w w') (hB : B ≤ lo) (hB' : B ≤ w.heap.size) : Below B w w' :=
  ⟨h.1, h.2.1, h.2.2.1, h.2.2.2.1, fun k hk => h.2.2.2.2 k (by omega) (.inl (by omega))⟩
theorem Within.of_grown {lo hi : Nat} {w w' : World} {row : Option Nat} (hg : w.grownBy w' row) (hr : ∀ g, row = some g → lo ≤ g ∧ g < hi) : Within lo hi w w' :=
  ⟨hg.os, hg.tape, hg.output, hg.size, fun k h0 hk => hg.block k h0 (fun e => by have := hr k e.symm; omega)⟩
theorem Within.of_drawn {lo hi : Nat} {w w' : World} (h : Drawn w w') : Within lo hi w w' := by obtain ⟨m, rfl⟩ := h; exact ⟨rfl, rfl, rfl, Nat.le_refl _, fun _ _ _ => rfl⟩
theorem Own.within {w w' : World} {lo hi n c lo' hi' : Nat} {A : Option Addr} {xs : List Int} (h : Own w lo hi A n c xs) (hw : Within lo' hi' w w') (hd : hi ≤ lo' ∨ hi' ≤ lo) : Own w' lo hi A n c xs := by
  refine ⟨⟨h.1.1, ?_⟩, h.2⟩
  rcases h.1.2 with hn | ⟨g, cap, cur, e, hl, hg, rest⟩
  · exact .inl hn
  · have hlt := h.2 g (by rw [e]; rfl)
    have hsz := (h.1.lt g (by rw [e]; rfl)).2
    exact .inr ⟨g, cap, cur, e, hl, (hw.2.2.2.2 g hsz (by omega)).trans hg, rest⟩
theorem Own.kept {w w' : World} {lo hi n c : Nat} {A : Option Addr} {xs : List Int} {row : Option Nat} (h : Own w lo hi A n c xs) (hg : w.grownBy w' row) (hne : ∀ g, (Value.slice A n c).ownBlock = some g → row ≠ some g) : Own w' lo hi A n c xs := by
  refine ⟨h.1.kept hg ?_, h.2⟩
  cases hb : (Value.slice A n c).ownBlock with
  | none => exact .inl rfl
  | some g => exact .inr fun e => hne g hb e.symm
theorem tm_set {ts : List Tm} {k j : Nat} (hk : k < ts.length) (t : Tm) : tm (ts.set k t) j = if j = k then t else tm ts j := by
  unfold tm
  rw [List.getD_eq_getElem?_getD, List.getD_eq_getElem?_getD, List.getElem?_set]
  by_cases e : k = j
  · subst e; simp [hk]
  · rw [if_neg e, if_neg (fun h => e h.symm)]
def zeroT (n : Nat) : List Tm := List.replicate n ([], 0)
theorem zeroT_tm (n k : Nat) : tm (zeroT n) k = ([], 0) := by
  unfold tm zeroT
  by_cases h : k < n
  · simp [List.getD, h]
  · simp [List.getD, h]
end Go.Proofs.Ythinbmjcdcmioaa

/-
  The helpers of the exact laws at terms: copying, measuring, comparing. Conditions: lengths below 2^40.
-/

namespace Go.Proofs.Ythinbmjcdcmioaa
open Go.RowKit

theorem grown_set (w : World) (a : Addr) (u : Value) : w.grownBy (w.setCell a u) (some a.block) :=
  ⟨rfl, rfl, rfl, by simp [World.setCell], fun k _ hk => Below.heap_setCell w a u k (fun e => hk (by rw [e]))⟩
theorem results_row {P : Program} {fn : Func} {p : Tmp} {ty : TypeId} (h : fn.results = #[.cell p ty]) (tmps : Array Value) (w : World) (g : Nat) (t : TypeId) (cs : Array Value) (d : TypeDesc)
    (hp : tmps.getD p undef = .pointer (some ⟨g, 0, none⟩)) (hg : Blk w g t cs) (hu : P.underlying ty = some d) (hd : (match d with | .struct _ | .array _ _ => true | _ => false) = true) (hi : (P.info? ty).map (·.size) = some cs.size) :
    (results fn tmps).run P w = .ok (.agg cs) w :=
  results_cell_row h tmps w g t cs (0, 0) d hp hg hu hd hi

/-- The terms copied after k rounds. -/
def copT (ts : List Tm) (k : Nat) : List Tm := ts.take k ++ zeroT (ts.length - k)
theorem copT_zero (ts : List Tm) : copT ts 0 = zeroT ts.length := by simp [copT]
theorem copT_all (ts : List Tm) : copT ts ts.length = ts := by simp [copT, zeroT]
theorem copT_succ {ts : List Tm} {k : Nat} (h : k < ts.length) : (copT ts k).set k ((tm ts k).1, (tm ts k).2) = copT ts (k + 1) := by
  unfold copT zeroT
  have hl : (ts.take k).length = k := by simp; omega
  rw [List.set_append_right _ _ (by omega), hl]
  have e : ts.length - k = (ts.length - (k + 1)) + 1 := by omega
  rw [e, List.replicate_succ, Nat.sub_self, List.set_cons_zero, take_tm h, List.append_assoc]
  rfl

end Go.Proofs.Ythinbmjcdcmioaa

/-
  The helpers of the exact laws at terms: measuring and comparing. Conditions: lengths below 2^40.
-/




namespace Go.Proofs.Ythinbmjcdcmioaa
open Go.RowKit

section
variable {P : Program} {ops : Array Oper} {C : World → Prop} {Q : Act → Prop} {a : Act} {o : Oper} {rest : List Oper}
theorem tq_class {id : Nat} {Q : Exit → Act → World → Prop} {w : World} {l : List Oper} (C : World → Prop) (hm : P.follows .mixedOrders = true) (hB : Region.lexB .any l.toArray = true) (hC : C w.drew)
    (h : wpQuiet P l.toArray C (fun a' => ∀ w', C w' → Q .normal a' w') l a) : (Code.region id l.toArray true).wp P Q a w :=
  wp_region_quiet hm hB hC (by simpa using h)
theorem tq_move (hg : o.guard = none) (x : Operand) (ho : o.op = .move x) (h : wpQuiet P ops C Q rest (a.put o.dst (a.eval x))) : wpQuiet P ops C Q (o :: rest) a := by
  refine wpQuiet_step fun K hK => ?_
  simp only [Region.wanted, hg, if_true]
  refine ⟨a.eval x, fun w _ => ?_, hK _ h⟩
  unfold Oper.quietAt execOp
  simp only [ho]
  exact ⟨rfl, rfl⟩
theorem tq_load (hg : o.guard = none) (ty : TypeId) (x : Operand) (ho : o.op = .load ty x) (b off : Nat) (hx : a.eval x = .pointer (some ⟨b, off, none⟩)) (cs : List Value) (d : TypeDesc)
    (hb : ∀ w, C w → w.rangeAt b off cs) (hu : P.underlying ty = some d) (hd : d.isRow = true) (hi : (P.info? ty).map (·.size) = some cs.length) (h : wpQuiet P ops C Q rest (a.put o.dst (.agg cs.toArray))) : wpQuiet P ops C Q (o :: rest) a := by
  refine wpQuiet_step fun K hK => ?_
  simp only [Region.wanted, hg, if_true]
  refine ⟨.agg cs.toArray, fun w hw => ?_, hK _ h⟩
  unfold Oper.quietAt execOp
  simp only [ho, hx, Instr.loadAt, Instr.sureAddr, Sem.run_bind, Sem.run_pure, Result.andThen_ok, run_loadVar_mid w b off ty cs d (hb w hw) hu hd hi]
  exact ⟨rfl, rfl⟩
end
/-- Worlds in which nothing has turned that was there. -/
def AfterT (wr w' : World) : Prop := Below wr.heap.size wr w'

/-- Equality of two lists of terms as a Bool. -/
def eqTs (ts us : List Tm) : Bool := decide (ts = us)
theorem eqTs_self (ts : List Tm) : eqTs ts ts = true := by simp [eqTs]
theorem eqTs_len {ts us : List Tm} (h : ts.length ≠ us.length) : eqTs ts us = false := by
  simp only [eqTs, decide_eq_false_iff_not]; intro e; exact h (by rw [e])
theorem eqTs_all {ts us : List Tm} (hl : ts.length = us.length) (h : ∀ j, j < ts.length → tm ts j = tm us j) : eqTs ts us = true := by
  simp only [eqTs, decide_eq_true_eq]
  exact tm_ext hl h
theorem eqTs_ne {ts us : List Tm} {k : Nat} (h : tm ts k ≠ tm us k) : eqTs ts us = false := by
  simp only [eqTs, decide_eq_false_iff_not]; intro e; exact h (by rw [e])
theorem TS.range {w : World} {b o k : Nat} {v : Value} {x : Int} (h0 : w.cell? ⟨b, o + k * 2, none⟩ = some v) (h1 : w.cell? ⟨b, o + k * 2 + 1, none⟩ = some (.int .i64 x)) : w.rangeAt b (o + k * 2) [v, .int .i64 x] := by
  intro j u hj
  match j, hj with
  | 0, hj => simp at hj; subst hj; exact h0
  | 1, hj => simp at hj; subst hj; exact h1

end Go.Proofs.Ythinbmjcdcmioaa

/-
  The program's own test for permutations, as arrays: contracts. Conditions: the length is at most 2^40.
-/

namespace Go.Proofs.Ythinbmjcdcmioaa
open Go.RowKit

/-- An array of integers as a value. -/
abbrev arrC (l : List Int) : Array Value := #[.int .i64 (nth l 0), .int .i64 (nth l 1), .int .i64 (nth l 2), .int .i64 (nth l 3), .int .i64 (nth l 4), .int .i64 (nth l 5), .int .i64 (nth l 6)]
abbrev arr (l : List Int) : Value := .agg (arrC l)

theorem isPermSize_any (a : Int) (w : World) :
    Calls Try.prog 107 #[.int .i64 a] w fun e w' => e = .returned (.bool (decide (1 ≤ a) && decide (a ≤ 7))) ∧ w = w' := by
  by_cases h1 : 1 ≤ a
  · by_cases h2 : a ≤ 7
    · go_enter Try.func107, Try.ntmps107
      go_wp2
      go_ret
      exact ⟨ret_bool (by simp [h1, h2]), rfl⟩
    · go_enter Try.func107, Try.ntmps107
      go_wp2
      go_ret
      exact ⟨ret_bool (by simp [h2]), rfl⟩
  · have h1' : a < 1 := by omega
    go_enter Try.func107, Try.ntmps107
    go_wp2
    go_ret
    exact ⟨ret_bool (by simp; intro; omega), rfl⟩
theorem isPermSize_yes {a : Int} (h : 1 ≤ a) (h' : a ≤ 7) (w : World) :
    Calls Try.prog 107 #[.int .i64 a] w fun e w' => e = .returned (.bool true) ∧ w = w' := by
  have := isPermSize_any a w
  simpa [h, h'] using this
theorem isPermSize_no {a : Int} (h : a < 1 ∨ 7 < a) (w : World) :
    Calls Try.prog 107 #[.int .i64 a] w fun e w' => e = .returned (.bool false) ∧ w = w' := by
  have e : (decide (1 ≤ a) && decide (a ≤ 7)) = false := by simp; omega
  have := isPermSize_any a w
  rwa [e] at this

set_option maxHeartbeats 1000000 in
theorem identityArray_any (w : World) :
    Calls Try.prog 108 #[] w fun e w' => e = .returned (.agg #[.int .i64 0, .int .i64 1, .int .i64 2, .int .i64 3, .int .i64 4, .int .i64 5, .int .i64 6]) ∧ Below w.heap.size w w' := by
  go_enter Try.func108, Try.ntmps108
  go_wp2
  go_rounds 8
  go_returns
  exact ⟨rfl, by go_grown⟩

/-- The array of a permutation, k places filled: behind them each number stands at its place. -/
def fillA (xs : List Int) (k : Nat) : List Int := (List.range 7).map fun (j : Nat) => if j < k then nth xs j else (j : Int)
theorem fillA_len (xs : List Int) (k : Nat) : (fillA xs k).length = 7 := by simp [fillA]
theorem fillA_nth (xs : List Int) (k j : Nat) (hj : j < 7) : nth (fillA xs k) j = if j < k then nth xs j else (j : Int) := by
  rw [nth_get (by rw [fillA_len]; exact hj)]
  simp [fillA]
/-- Which numbers are among the first k. -/
def seenC (xs : List Int) (k : Nat) : Array Value := ((List.range 7).map fun (v : Nat) => Value.bool (hasB (xs.take k) (v : Int))).toArray
theorem lt7 {k : Nat} (h : k < 7) : k = 0 ∨ k = 1 ∨ k = 2 ∨ k = 3 ∨ k = 4 ∨ k = 5 ∨ k = 6 := by omega
theorem arrC_get (l : List Int) (k : Nat) (h : k < 7) : (arrC l)[k]? = some (.int .i64 (nth l k)) := by
  rcases lt7 h with rfl | rfl | rfl | rfl | rfl | rfl | rfl <;> rfl
theorem arrC_set (l : List Int) (k : Nat) (h : k < 7) (x : Int) (hl : l.length = 7) : (arrC l).setIfInBounds k (.int .i64 x) = arrC (l.set k x) := by
  match l, hl with
  | [a, b, c, d, e, f, g], _ =>
    rcases lt7 h with rfl | rfl | rfl | rfl | rfl | rfl | rfl <;> rfl
theorem arrC_fill (xs : List Int) (k : Nat) (h : k < 7) : (arrC (fillA xs k)).setIfInBounds k (.int .i64 (nth xs k)) = arrC (fillA xs (k + 1)) := by
  rw [arrC_set _ k h _ (fillA_len _ _)]
  congr 1
  apply List.ext_getElem (by simp [fillA])
  intro j h1 h2
  rw [List.getElem_set]
  simp only [fillA, List.getElem_map, List.getElem_range]
  by_cases e : k = j
  · subst e; simp
  · rw [if_neg e]
    by_cases h3 : j < k
    · rw [if_pos h3, if_pos (by omega)]
    · rw [if_neg h3, if_neg (by omega)]
theorem seenC_zero (xs : List Int) : seenC xs 0 = #[.bool false, .bool false, .bool false, .bool false, .bool false, .bool false, .bool false] := by
  simp [seenC, hasB, List.range_succ]
theorem seenC_get (xs : List Int) (k : Nat) (x : Int) (h0 : 0 ≤ x) (h7 : x < 7) : (seenC xs k)[x.toNat]? = some (.bool (hasB (xs.take k) x)) := by
  have e : ((x.toNat : Nat) : Int) = x := by omega
  simp only [seenC, List.getElem?_toArray, List.getElem?_map]
  rw [List.getElem?_range (by omega)]
  simp [e]
theorem seenC_set (xs : List Int) (k : Nat) (hk : k < xs.length) (h0 : 0 ≤ nth xs k) : (seenC xs k).setIfInBounds (nth xs k).toNat (.bool true) = seenC xs (k + 1) := by
  apply Array.ext_getElem?
  intro j
  rw [Array.getElem?_setIfInBounds]
  by_cases e : (nth xs k).toNat = j
  · rw [if_pos e]
    by_cases hj : j < 7
    · rw [if_pos (by simp [seenC]; omega)]
      simp only [seenC, List.getElem?_toArray, List.getElem?_map]
      rw [List.getElem?_range hj, take_nth hk]
      have : ((j : Nat) : Int) = nth xs k := by omega
      simp [hasB, this]
    · rw [if_neg (by simp [seenC]; omega)]
      symm
      apply Array.getElem?_eq_none
      simp [seenC]; omega
  · rw [if_neg e]
    by_cases hj : j < 7
    · simp only [seenC, List.getElem?_toArray, List.getElem?_map]
      rw [List.getElem?_range hj, take_nth hk]
      have : ¬ ((j : Nat) : Int) = nth xs k := by omega
      simp [hasB, this]
    · rw [Array.getElem?_eq_none (by simp [seenC]; omega), Array.getElem?_eq_none (by simp [seenC]; omega)]

abbrev zeroC : Array Value := #[.int .i64 0, .int .i64 0, .int .i64 0, .int .i64 0, .int .i64 0, .int .i64 0, .int .i64 0]

theorem Try.infoArr : (Try.prog.info? 93).map (·.size) = some 7 := by kernel_rfl
theorem Try.undArr : Try.prog.underlying 93 = some (.array 7 3) := Try.underlying93
theorem zeroC_one : zeroC.all (·.oneCell') = true := by simp [Value.oneCell']
theorem arrC_one (l : List Int) : (arrC l).all (·.oneCell') = true := by simp [Value.oneCell']
set_option maxHeartbeats 2000000 in
theorem arrayOf_any (A : Option Addr) (n c : Nat) (xs : List Int) (w : World) (hs : SI w A n xs) (hn : n ≤ 1099511627776) :
    Calls Try.prog 96 #[.slice A n c] w fun e w' => (isPermB xs = true ∧ e = .returned (.tuple #[arr (fillA xs n), .bool true]) ∨ isPermB xs = false ∧ e = .returned (.tuple #[.agg zeroC, .bool false])) ∧ Below w.heap.size w w' := by
  have hl := hs.1
  by_cases hsz : 1 ≤ n ∧ n ≤ 7
  · obtain ⟨hs1, hs7⟩ := hsz
    go_enter Try.func96, Try.ntmps96
    go_wp2_with (first | (go_at_call 107; refine (isPermSize_yes (by omega) (by omega) _).mono ?_; rintro e w1 ⟨rfl, rfl⟩) | (go_at_call 108; refine (identityArray_any _).mono ?_; rintro e w2 ⟨rfl, hb2⟩))
    have hbR : Blk w2 w.heap.size 93 zeroC := ((Blk.new w 93 zeroC).below hb2 (by simp))
    have hbw : Below w.heap.size w w2 := ((Below.refl _ _).alloc (Nat.le_refl _) _).trans (hb2.mono (by simp))
    have hb0 := Blk.new w2 93 (arrC (fillA xs 0))
    have hb1 := Blk.new (w2.alloc (.cells #[.int .i64 0, .int .i64 1, .int .i64 2, .int .i64 3, .int .i64 4, .int .i64 5, .int .i64 6] 93)) 101 (seenC xs 0)
    rw [show (w2.alloc (.cells #[.int .i64 0, .int .i64 1, .int .i64 2, .int .i64 3, .int .i64 4, .int .i64 5, .int .i64 6] 93)).heap.size = w2.heap.size + 1 from by simp, seenC_zero] at hb1
    have HW2 : Hid (w.heap.size + 1 ≤ w2.heap.size) := Lib.hid (by have := hb2.size; simpa using this)
    clear hb2
    go_loopw [16] (fun i wr => ∃ k : Nat, k ≤ n ∧ i = .int .i64 k ∧ Blk wr w.heap.size 93 zeroC ∧ Blk wr w2.heap.size 93 (arrC (fillA xs k)) ∧ Blk wr (w2.heap.size + 1) 101 (seenC xs k) ∧ Below w.heap.size w wr ∧ ∀ j, j < k → goodAt xs j)
      (fun i _ => n - (intOf i).toNat)
    case atStart =>
      refine ⟨0, Nat.zero_le _, rfl, (hbR.alloc _).alloc _, ?_, ?_, ?_, fun j hj => absurd hj (by omega)⟩
      · exact hb0.alloc _
      · rw [seenC_zero]; exact hb1
      · exact (hbw.alloc hbw.size _).alloc (by have := hbw.size; simp; omega) _
    case round =>
      obtain ⟨k, hk, rfl, hR, hG, hS, hB, hall⟩ := hrel
      have HA := Lib.hid hall
      have HL := Lib.hid hl
      have HB := Lib.hid hB
      have HR := Lib.hid hR
      have HG := Lib.hid hG
      have HS := Lib.hid hS
      clear hall hl hB hR hbw hb0 hb1 hbR hG hS
      by_cases hlt : k < n
      · obtain ⟨b, o, e1, hb, hc⟩ := hs.at_ (by omega)
        have hc1 : wr.cell? ⟨b, o + k, none⟩ = some (.int .i64 (nth xs k)) := (HB.out.cell (p := ⟨b, o + k, none⟩) hb).trans (hc k hlt)
        subst e1
        obtain ⟨x, hx⟩ : ∃ x, x = nth xs k := ⟨_, rfl⟩
        rw [← hx] at hc1
        have HX := Lib.hid hx
        clear hc hs hx
        by_cases hx0 : x < 0
        · have hf : isPermB xs = false := by
            refine isPermB_false fun hp => ?_
            obtain ⟨g1, _, _⟩ := (hp.2.2 k (by have := HL.out; omega))
            rw [← HX.out] at g1; omega
          have HF := Lib.hid hf
          clear hf
          go_wp2_with (refine wpList_store_blk rfl 93 (.tmp 2) (.tmp 34) rfl w.heap.size zeroC rfl rfl 93 zeroC HR.out Try.infoArr rfl zeroC_one ?_; intro w3 hR3 hg3)
          refine bodyPost_ret (results_blk_tmp Try.results96 _ _ _ _ _ 7 3 rfl hR3 Try.undArr Try.infoArr) rfl ?_
          exact ⟨.inr ⟨HF.out, rfl⟩, HB.out.grown hg3 HB.out.size (by rintro _ ⟨⟩; exact Nat.le_refl _)⟩
        · by_cases hxn : (n : Int) ≤ x
          · have hf : isPermB xs = false := by
              refine isPermB_false fun hp => ?_
              obtain ⟨_, g1, _⟩ := (hp.2.2 k (by have := HL.out; omega))
              rw [← HX.out, HL.out] at g1; omega
            have HF := Lib.hid hf
            clear hf
            go_wp2_with (refine wpList_store_blk rfl 93 (.tmp 2) (.tmp 34) rfl w.heap.size zeroC rfl rfl 93 zeroC HR.out Try.infoArr rfl zeroC_one ?_; intro w3 hR3 hg3)
            refine bodyPost_ret (results_blk_tmp Try.results96 _ _ _ _ _ 7 3 rfl hR3 Try.undArr Try.infoArr) rfl ?_
            exact ⟨.inr ⟨HF.out, rfl⟩, HB.out.grown hg3 HB.out.size (by rintro _ ⟨⟩; exact Nat.le_refl _)⟩
          · have hx0' : 0 ≤ x := by omega
            have hx7 : x < 7 := by omega
            have hcS : wr.cell? ⟨w2.heap.size + 1, x.toNat, none⟩ = some (.bool (hasB (xs.take k) x)) := (HS.out.cell _).trans (seenC_get xs k x hx0' hx7)
            have hfS := HS.out.frozen x.toNat
            cases hh : hasB (xs.take k) x with
            | true =>
              rw [hh] at hcS
              have hf : isPermB xs = false := by
                refine isPermB_false fun hp => ?_
                obtain ⟨_, _, g3⟩ := (hp.2.2 k (by have := HL.out; omega))
                rw [← HX.out, hh] at g3; cases g3
              have HF := Lib.hid hf
              clear hf hh
              go_wp2_with (refine wpList_store_blk rfl 93 (.tmp 2) (.tmp 34) rfl w.heap.size zeroC rfl rfl 93 zeroC HR.out Try.infoArr rfl zeroC_one ?_; intro w3 hR3 hg3)
              refine bodyPost_ret (results_blk_tmp Try.results96 _ _ _ _ _ 7 3 rfl hR3 Try.undArr Try.infoArr) rfl ?_
              exact ⟨.inr ⟨HF.out, rfl⟩, HB.out.grown hg3 HB.out.size (by rintro _ ⟨⟩; exact Nat.le_refl _)⟩
            | false =>
              rw [hh] at hcS
              have HGd : Hid (goodAt xs k) := Lib.hid (by
                have e1 := HX.out
                have e3 := HL.out
                exact ⟨by omega, by omega, by rw [← e1]; exact hh⟩)
              clear hh
              have hS' := (HS.out.set_ x.toNat (.bool true))
              have hG' := ((HG.out.far (p := ⟨w2.heap.size + 1, x.toNat, none⟩) (by show w2.heap.size ≠ w2.heap.size + 1; omega) (.bool true)).set_ k (.int .i64 x))
              have hR' := ((HR.out.far (p := ⟨w2.heap.size + 1, x.toNat, none⟩) (by have := HW2.out; show w.heap.size ≠ w2.heap.size + 1; omega) (.bool true)).far (p := ⟨w2.heap.size, k, none⟩) (by have := HW2.out; show w.heap.size ≠ w2.heap.size; omega) (.int .i64 x))
              have HS2 := Lib.hid (hS'.far (p := ⟨w2.heap.size, k, none⟩) (by show w2.heap.size + 1 ≠ w2.heap.size; omega) (.int .i64 x))
              have HG2 := Lib.hid hG'
              have HR2 := Lib.hid hR'
              have HB2 := Lib.hid ((HB.out.setCell (p := ⟨w2.heap.size + 1, x.toNat, none⟩) (by have := HW2.out; show w.heap.size ≤ w2.heap.size + 1; omega) (.bool true)).setCell (p := ⟨w2.heap.size, k, none⟩) (by have := HW2.out; show w.heap.size ≤ w2.heap.size; omega) (.int .i64 x))
              have hcG : wr.cell? ⟨w2.heap.size, k, none⟩ = some (.int .i64 (nth (fillA xs k) k)) := (HG.out.cell _).trans (arrC_get _ k (by omega))
              have hfG := HG.out.frozen k
              clear hS' hG' hR'
              go_wp2
              go_roundw
              case rel =>
                have e1 := HX.out
                have e3 := HL.out
                refine ⟨k + 1, by omega, by go_num, HR2.out, ?_, ?_, HB2.out, fun j hj => ?_⟩
                · have := HG2.out
                  rw [e1, arrC_fill xs k (by omega), ← e1] at this
                  exact this
                · have := HS2.out
                  rw [e1, seenC_set xs k (by omega) (by omega), ← e1] at this
                  exact this
                · rcases Nat.lt_or_ge j k with h | h
                  · exact HA.out j h
                  · obtain rfl : j = k := by omega
                    exact HGd.out
              case measure => simp [intOf]; omega
      · have hkn : k = n := by omega
        subst hkn
        have hp : isPermB xs = true := isPermB_true ⟨by have := HL.out; omega, by have := HL.out; omega, by rw [HL.out]; exact HA.out⟩
        have HP := Lib.hid hp
        clear hp
        go_wp2_with (first | (refine wpList_load_blk rfl 93 (.tmp 4) rfl w2.heap.size rfl 93 (arrC (fillA xs k)) 7 3 HG.out Try.undArr Try.infoArr ?_) | (refine wpList_store_blk rfl 93 (.tmp 2) (.tmp 41) rfl w.heap.size (arrC (fillA xs k)) rfl rfl 93 zeroC HR.out Try.infoArr rfl (arrC_one _) ?_; intro w3 hR3 hg3))
        refine bodyPost_ret (results_blk_tmp Try.results96 _ _ _ _ _ 7 3 rfl hR3 Try.undArr Try.infoArr) rfl ?_
        exact ⟨.inl ⟨HP.out, rfl⟩, HB.out.grown hg3 HB.out.size (by rintro _ ⟨⟩; exact Nat.le_refl _)⟩
  · go_enter Try.func96, Try.ntmps96
    go_wp2_with (go_at_call 107; refine (isPermSize_no (by omega) _).mono ?_; rintro e w1 ⟨rfl, rfl⟩)
    go_returns
    refine ⟨.inr ⟨isPermB_false (fun hp => hsz ⟨by have := hp.1; omega, by have := hp.2.1; omega⟩), rfl⟩, by go_grown⟩

theorem arrayOf_yes {A : Option Addr} {n : Nat} (c : Nat) {xs : List Int} {w : World} (hs : SI w A n xs) (hn : n ≤ 1099511627776) (hp : isPermB xs = true) :
    Calls Try.prog 96 #[.slice A n c] w fun e w' => e = .returned (.tuple #[arr (fillA xs n), .bool true]) ∧ Below w.heap.size w w' := by
  refine (arrayOf_any A n c xs w hs hn).mono fun e w' ⟨he, hb⟩ => ⟨?_, hb⟩
  rcases he with ⟨_, he⟩ | ⟨h, _⟩
  · exact he
  · rw [hp] at h; cases h
theorem arrayOf_no {A : Option Addr} {n : Nat} (c : Nat) {xs : List Int} {w : World} (hs : SI w A n xs) (hn : n ≤ 1099511627776) (hp : isPermB xs = false) :
    Calls Try.prog 96 #[.slice A n c] w fun e w' => e = .returned (.tuple #[.agg zeroC, .bool false]) ∧ Below w.heap.size w w' := by
  refine (arrayOf_any A n c xs w hs hn).mono fun e w' ⟨he, hb⟩ => ⟨?_, hb⟩
  rcases he with ⟨h, _⟩ | ⟨_, he⟩
  · rw [hp] at h; cases h
  · exact he

set_option maxHeartbeats 1000000 in
theorem implIsPerm_any (A : Option Addr) (n c : Nat) (xs : List Int) (w : World) (hs : SI w A n xs) (hn : n ≤ 1099511627776) :
    Calls Try.prog 89 #[.slice A n c] w fun e w' => e = .returned (.bool (isPermB xs)) ∧ Below w.heap.size w w' := by
  cases hp : isPermB xs with
  | true =>
    have HP := Lib.hid hp
    clear hp
    go_enter Try.func89, Try.ntmps89
    go_wp2_with (go_at_call 96; refine (arrayOf_yes c hs hn HP.out).mono ?_; rintro e w1 ⟨rfl, hb1⟩)
    go_ret
    exact ⟨rfl, hb1.alloc hb1.size _⟩
  | false =>
    have HP := Lib.hid hp
    clear hp
    go_enter Try.func89, Try.ntmps89
    go_wp2_with (go_at_call 96; refine (arrayOf_no c hs hn HP.out).mono ?_; rintro e w1 ⟨rfl, hb1⟩)
    go_ret
    exact ⟨rfl, hb1.alloc hb1.size _⟩
end Go.Proofs.Ythinbmjcdcmioaa

/-
  Worlds that have only grown: draws, and new blocks behind the heap. Plain lemmas. No conditions.
-/


namespace Go.Proofs.Ythinbmjcdcmioaa
open Go.RowKit

/-- w' is w, some draws on, with new blocks behind. -/
def Grew (w w' : World) : Prop := ∃ q os, w' = Go.Sort.grow (w.drewN q) os
theorem Grew.refl (w : World) : Grew w w := ⟨0, #[], by simp [Go.Sort.grow, World.drewN]⟩
theorem Grew.drewN {w w' : World} (h : Grew w w') (n : Nat) : Grew w (w'.drewN n) := by
  obtain ⟨q, os, rfl⟩ := h
  exact ⟨q + n, os, by simp [Go.Sort.grow, World.drewN, Nat.add_assoc]⟩
theorem Grew.drew {w w' : World} (h : Grew w w') : Grew w w'.drew := by
  obtain ⟨q, os, rfl⟩ := h
  exact ⟨q + 1, os, by simp [Go.Sort.grow, World.drewN, World.drew, Nat.add_assoc]⟩
theorem Grew.alloc {w w' : World} (h : Grew w w') (o : Obj) : Grew w (w'.alloc o) := by
  obtain ⟨q, os, rfl⟩ := h
  exact ⟨q, os ++ #[o], by rw [Go.Sort.alloc_eq_grow, Go.Sort.grow_grow]⟩
theorem Grew.trans {w w' w'' : World} (h : Grew w w') (h' : Grew w' w'') : Grew w w'' := by
  obtain ⟨q, os, rfl⟩ := h
  obtain ⟨q', os', rfl⟩ := h'
  exact ⟨q + q', os ++ os', by simp [Go.Sort.grow, World.drewN, Nat.add_assoc, Array.append_assoc]⟩
theorem Grew.of_drawn {w w' : World} (h : Drawn w w') : Grew w w' := by
  obtain ⟨m, rfl⟩ := h
  exact ⟨m, #[], (Go.Sort.grow_empty _).symm⟩
theorem Grew.below {w w' : World} (h : Grew w w') : Below w.heap.size w w' := by
  obtain ⟨q, os, rfl⟩ := h
  exact ⟨rfl, rfl, rfl, by simp, fun k hk => Go.Sort.heap_grow_old (w.drewN q) os hk⟩
theorem Grew.size {w w' : World} (h : Grew w w') : w.heap.size ≤ w'.heap.size := h.below.size
end Go.Proofs.Ythinbmjcdcmioaa

/-
  Keys of exponents and comparison of terms, on both sides. No conditions but the exponents' bounds.
-/




namespace Go.Proofs.Ythinbmjcdcmioaa
open Go.RowKit

theorem nth_drop (e : List Int) (m k : Nat) : nth (e.drop m) k = nth e (m + k) := by simp [nth, List.getD]
theorem keyD {e : List Int} (hl : e.length = 7) (hs : smallE e = true) (m : Nat) : 0 ≤ key7 (e.drop m) ∧ key7 (e.drop m) ≤ 562949953421312 := by
  have h := key7_bound (e.drop m) (fun k hk => by rw [nth_drop]; exact smallE_nth hs (by simp at hk; omega))
  have h1 : (128 : Int) ^ (e.drop m).length ≤ 562949953421312 := by
    have : (e.drop m).length ≤ 7 := by simp; omega
    generalize (e.drop m).length = q at this
    match q, this with
    | 0, _ | 1, _ | 2, _ | 3, _ | 4, _ | 5, _ | 6, _ | 7, _ => decide
  omega
/-- What comparing two numbers answers. -/
def cmpI (x y : Int) : Int := if x < y then -1 else if y < x then 1 else 0
theorem isNaN_any (x : Int) (w : World) : Calls Try.prog 109 #[.int .i64 x] w fun r w' => r = .returned (.bool false) ∧ w' = w := by
  go_enter Try.func109, Try.ntmps109
  go_wp2
  go_ret
  exact ⟨rfl, rfl⟩
theorem compare_any (x y : Int) (w : World) : Calls Try.prog 106 #[.int .i64 x, .int .i64 y] w fun r w' => r = .returned (.int .i64 (cmpI x y)) ∧ w' = w := by
  unfold cmpI
  by_cases h1 : x < y
  · rw [if_pos h1]
    go_enter Try.func106, Try.ntmps106
    go_wp2_with (go_at_call 109; refine (isNaN_any _ _).mono ?_; rintro e w1 ⟨rfl, rfl⟩)
    go_ret
    exact ⟨rfl, rfl⟩
  · rw [if_neg h1]
    by_cases h2 : y < x
    · rw [if_pos h2]
      go_enter Try.func106, Try.ntmps106
      go_wp2_with (go_at_call 109; refine (isNaN_any _ _).mono ?_; rintro e w1 ⟨rfl, rfl⟩)
      go_ret
      exact ⟨rfl, rfl⟩
    · rw [if_neg h2]
      go_enter Try.func106, Try.ntmps106
      go_wp2_with (go_at_call 109; refine (isNaN_any _ _).mono ?_; rintro e w1 ⟨rfl, rfl⟩)
      go_ret
      exact ⟨rfl, rfl⟩

theorem compare_q (x y : Int) (w : World) : Calls Try.prog 106 #[.int .i64 x, .int .i64 y] w fun r w' => r = .returned (.int .i64 (cmpI x y)) ∧ Drawn w w' :=
  (compare_any x y w).mono fun _ _ ⟨he, hw⟩ => ⟨he, hw ▸ Drawn.refl _⟩
/-- What comparing two terms answers: the greater key stands first. -/
def cmpK (a b : List Int) : Int := if key7 b < key7 a then -1 else if key7 a < key7 b then 1 else 0
theorem smallE_P {e : List Int} (h : smallE e = true) : ∀ k, k < e.length → 0 ≤ nth e k ∧ nth e k ≤ 127 := fun _ hk => by have := smallE_nth h hk; omega
/-- What comparing two lists of exponents answers: from the last one, the greater one stands first. -/
def cmpX (xs ys : List Int) : Nat → Int
  | 0 => 0
  | m + 1 => if nth xs m = nth ys m then cmpX xs ys m else cmpI (nth ys m) (nth xs m)
theorem cmpX_eq {xs ys : List Int} {m : Nat} (h : nth xs m = nth ys m) : cmpX xs ys (m + 1) = cmpX xs ys m := by
  show (if nth xs m = nth ys m then cmpX xs ys m else cmpI (nth ys m) (nth xs m)) = _; rw [if_pos h]
theorem cmpX_ne {xs ys : List Int} {m : Nat} (h : ¬ nth xs m = nth ys m) : cmpX xs ys (m + 1) = cmpI (nth ys m) (nth xs m) := by
  show (if nth xs m = nth ys m then cmpX xs ys m else cmpI (nth ys m) (nth xs m)) = _; rw [if_neg h]
theorem cmpK_eq {a b : List Int} (hl : a.length = b.length) (h : ∀ j, j < a.length → nth a j = nth b j) : cmpK a b = 0 := by
  have e : a = b := by
    apply List.ext_getElem hl
    intro j h1 h2
    have := h j h1
    rwa [nth_get h1, nth_get h2] at this
  subst e
  unfold cmpK
  rw [if_neg (by omega), if_neg (by omega)]
theorem cmpK_ne {a b : List Int} {i : Nat} (ha : a.length = 7) (hb : b.length = 7) (sa : ∀ k, k < 7 → 0 ≤ nth a k ∧ nth a k ≤ 127) (sb : ∀ k, k < 7 → 0 ≤ nth b k ∧ nth b k ≤ 127) (hi : i < 7) (h : ∀ j, i < j → j < 7 → nth a j = nth b j) (hne : nth a i ≠ nth b i) :
    cmpK a b = cmpI (nth b i) (nth a i) := by
  unfold cmpK cmpI
  by_cases h1 : nth b i < nth a i
  · have := key7_lt b a i (by omega) (by rw [hb]; exact sb) (by rw [ha]; exact sa) (by omega) (fun j h1 h2 => (h j h1 (by omega)).symm) h1
    rw [if_pos this, if_pos h1]
  · have := key7_lt a b i (by omega) (by rw [ha]; exact sa) (by rw [hb]; exact sb) (by omega) (fun j h1 h2 => h j h1 (by omega)) (by omega)
    rw [if_neg (by omega), if_pos this, if_neg h1, if_pos (by omega)]
theorem cmpX_key {a b : List Int} (ha : a.length = 7) (hb : b.length = 7) (sa : ∀ k, k < 7 → 0 ≤ nth a k ∧ nth a k ≤ 127) (sb : ∀ k, k < 7 → 0 ≤ nth b k ∧ nth b k ≤ 127) :
    ∀ m, m ≤ 7 → (∀ j, m ≤ j → j < 7 → nth a j = nth b j) → cmpX a b m = cmpK a b
  | 0, _, h => (cmpK_eq (by omega) fun j hj => h j (by omega) (by omega)).symm
  | m + 1, hm, h => by
    by_cases e : nth a m = nth b m
    · rw [cmpX_eq e]
      exact cmpX_key ha hb sa sb m (by omega) fun j h1 h2 => by
        rcases Nat.lt_or_ge m j with h3 | h3
        · exact h j (by omega) h2
        · obtain rfl : j = m := by omega
          exact e
    · rw [cmpX_ne e]
      exact (cmpK_ne ha hb sa sb (by omega) (fun j h1 h2 => h j (by omega) h2) e).symm

theorem arrC_map {l : List Int} (hl : l.length = 7) : arrC l = (l.map (Value.int .i64)).toArray := by
  match l, hl with
  | [a, b, c, d, e, f, g], _ => rfl
theorem quiet_loadcell1 {C : World → Prop} {a : Act} {o : Oper} {K : Act → Prop} (ty : TypeId) (x : Operand) (ho : o.op = .load ty x) (b off : Nat) (hx : a.eval x = .pointer (some ⟨b, off, none⟩)) (v : Value)
    (hb : ∀ w, C w → w.cell? ⟨b, off, none⟩ = some v) (hu : ty = 22) (hk : K (a.put o.dst v)) : o.quiet Try.prog a C K :=
  ⟨_, fun w hw => by
    subst hu
    have hc := hb w hw
    have hl : (loadVar 22 ⟨b, off, none⟩).run Try.prog w = .ok v w := by
      simp [loadVar, isAgg, underlying, Try.underlying22, hc, Result.andThen]
    unfold Oper.quietAt execOp
    simp only [ho, hx, Instr.loadAt, Instr.sureAddr, Sem.run_bind, Sem.run_pure, Result.andThen_ok, hl]
    exact ⟨rfl, rfl⟩, hk⟩
/-- A load at a class of worlds, the load's own run given. -/
theorem quiet_loadrun {C : World → Prop} {a : Act} {o : Oper} {K : Act → Prop} (ty : TypeId) (x : Operand) (ho : o.op = .load ty x) (b off : Nat) (hx : a.eval x = .pointer (some ⟨b, off, none⟩)) (v : Value)
    (hb : ∀ w, C w → (loadVar ty ⟨b, off, none⟩).run Try.prog w = .ok v w) (hk : K (a.put o.dst v)) : o.quiet Try.prog a C K :=
  ⟨_, fun w hw => by
    have hl := hb w hw
    unfold Oper.quietAt execOp
    simp only [ho, hx, Instr.loadAt, Instr.sureAddr, Sem.run_bind, Sem.run_pure, Result.andThen_ok, hl]
    exact ⟨rfl, rfl⟩, hk⟩
end Go.Proofs.Ythinbmjcdcmioaa

/-
  The order of lists: number by number, what stands first is less. Conditions: lengths below 2^40.
-/

namespace Go.Proofs.Ythinbmjcdcmioaa
open Go.RowKit

/-- What comparing two lists answers. -/
def cmpL : List Int → List Int → Int
  | [], [] => 0
  | [], _ :: _ => -1
  | _ :: _, [] => 1
  | x :: xs, y :: ys => if x < y then -1 else if y < x then 1 else cmpL xs ys
theorem drop_nth {xs : List Int} {k : Nat} (h : k < xs.length) : xs.drop k = nth xs k :: xs.drop (k + 1) := by
  rw [List.drop_eq_getElem_cons h, nth_get h]
theorem cmpL_at {xs ys : List Int} {k : Nat} (hx : k < xs.length) (hy : k < ys.length) : cmpL (xs.drop k) (ys.drop k) = if nth xs k < nth ys k then -1 else if nth ys k < nth xs k then 1 else cmpL (xs.drop (k + 1)) (ys.drop (k + 1)) := by
  rw [drop_nth hx, drop_nth hy]; rfl
theorem cmpL_short {xs ys : List Int} {k : Nat} (hx : k = xs.length) (hy : k < ys.length) : cmpL (xs.drop k) (ys.drop k) = -1 := by
  rw [drop_nth hy, List.drop_of_length_le (by omega)]; rfl
theorem cmpL_long {xs ys : List Int} {k : Nat} (hx : k < xs.length) (hy : k = ys.length) : cmpL (xs.drop k) (ys.drop k) = 1 := by
  rw [drop_nth hx, List.drop_of_length_le (by omega : ys.length ≤ k)]; rfl
theorem cmpL_end {xs ys : List Int} {k : Nat} (hx : k = xs.length) (hy : k = ys.length) : cmpL (xs.drop k) (ys.drop k) = 0 := by
  rw [List.drop_of_length_le (by omega), List.drop_of_length_le (by omega)]; rfl
def lessL (xs ys : List Int) : Bool := decide (cmpL xs ys < 0)
theorem lessL_yes {xs ys : List Int} (h : cmpL xs ys = -1) : lessL xs ys = true := by simp [lessL, h]
theorem lessL_no {xs ys : List Int} (h : 0 ≤ cmpL xs ys) : lessL xs ys = false := by simp [lessL]; exact h

set_option maxHeartbeats 1600000 in
theorem l1Less_any (A A2 : Option Addr) (n c n2 c2 : Nat) (xs ys : List Int) (w : World) (hs : SI w A n xs) (hs2 : SI w A2 n2 ys) (hn : n ≤ 1099511627776) (hn2 : n2 ≤ 1099511627776) :
    Calls Try.prog 63 #[.slice A n c, .slice A2 n2 c2] w fun e w' => e = .returned (.bool (lessL xs ys)) ∧ Drawn w w' := by
  have HL := Lib.hid (And.intro hs.1 hs2.1)
  go_enter Try.func63, Try.ntmps63
  go_wp2
  go_loopw [5] (fun iv wr => ∃ k : Nat, k ≤ n ∧ k ≤ n2 ∧ iv = .int .i64 k ∧ Drawn w wr ∧ cmpL xs ys = cmpL (xs.drop k) (ys.drop k))
    (fun iv _ => n - (intOf iv).toNat)
  case atStart => exact ⟨0, Nat.zero_le _, Nat.zero_le _, rfl, Drawn.refl _, by simp⟩
  case round =>
    obtain ⟨k, hk, hk2, rfl, hD, hq⟩ := hrel
    have HD := Lib.hid hD
    have HQ := Lib.hid hq
    have h1 := hD.si hs
    have h2 := hD.si hs2
    clear hD hq hs hs2
    by_cases hlt : k < n
    · have hlI : (k : Int) < (n : Int) := by omega
      by_cases hlt2 : k < n2
      · have hlI2 : (k : Int) < (n2 : Int) := by omega
        obtain ⟨b, o, rfl, _, hc⟩ := h1.at_ (by omega)
        obtain ⟨b2, o2, rfl, _, hc2⟩ := h2.at_ (by omega)
        have hx := hc k hlt
        have hy := hc2 k hlt2
        have HS := cmpL_at (xs := xs) (ys := ys) (k := k) (by have := HL.out; omega) (by have := HL.out; omega)
        obtain ⟨x, hx0⟩ : ∃ x, x = nth xs k := ⟨_, rfl⟩
        obtain ⟨y, hy0⟩ : ∃ y, y = nth ys k := ⟨_, rfl⟩
        rw [← hx0] at hx HS
        rw [← hy0] at hy HS
        rw [← HQ.out] at HS
        have HS := Lib.hid HS
        clear h1 h2 hc hc2 hx0 hy0
        by_cases hxy : x = y
        · subst hxy
          have HS2 := Lib.hid (HS.out.trans ((if_neg (by omega)).trans (if_neg (by omega))))
          go_wp2_with fail
          go_quiet (fail)
          go_wp2
          go_roundw
          case rel => exact ⟨k + 1, by omega, by omega, by go_num, HD.out.drewN _, HS2.out⟩
          case measure => simp [intOf]; omega
        · have hne : (x != y) = true := by simpa using hxy
          by_cases hlt3 : x < y
          · have HF := Lib.hid (lessL_yes (HS.out.trans (if_pos hlt3)))
            go_wp2_with fail
            go_quiet (fail)
            go_wp2_with fail
            go_quiet (fail)
            go_wp2
            go_ret
            exact ⟨ret_bool HF.out.symm, by first | exact (HD.out.drewN _).drewN _ | exact HD.out.drewN _⟩
          · have HF := Lib.hid (lessL_no (Int.le_of_eq (HS.out.trans ((if_neg hlt3).trans (if_pos (by omega)))).symm |> Int.le_trans (by decide)))
            go_wp2_with fail
            go_quiet (fail)
            go_wp2_with fail
            have hlt4 : ¬ x < y := by omega
            go_quiet (fail)
            go_wp2
            go_ret
            exact ⟨ret_bool HF.out.symm, by first | exact (HD.out.drewN _).drewN _ | exact HD.out.drewN _⟩
      · have hk2n : k = n2 := by omega
        have hlI2 : ¬ (k : Int) < (n2 : Int) := by omega
        have hn2n : ¬ (n : Int) < (n2 : Int) := by omega
        have HF := Lib.hid (lessL_no (by rw [HQ.out, cmpL_long (by have := HL.out; omega) (by have := HL.out; omega)]; decide))
        clear h1 h2
        go_wp2
        go_ret
        exact ⟨ret_bool HF.out.symm, HD.out⟩
    · have hkn : k = n := by omega
      have hlI : ¬ (k : Int) < (n : Int) := by omega
      clear h1 h2
      by_cases hlt2 : n < n2
      · have hn2n : (n : Int) < (n2 : Int) := by omega
        have HF := Lib.hid (lessL_yes (by rw [HQ.out, cmpL_short (by have := HL.out; omega) (by have := HL.out; omega)]))
        go_wp2
        go_ret
        exact ⟨ret_bool HF.out.symm, HD.out⟩
      · have hn2n : ¬ (n : Int) < (n2 : Int) := by omega
        have HF := Lib.hid (lessL_no (by rw [HQ.out, cmpL_end (by have := HL.out; omega) (by have := HL.out; omega)]; decide))
        go_wp2
        go_ret
        exact ⟨ret_bool HF.out.symm, HD.out⟩

set_option maxHeartbeats 1600000 in
theorem sliceCompare_any (A A2 : Option Addr) (n c n2 c2 : Nat) (xs ys : List Int) (w : World) (hs : SI w A n xs) (hs2 : SI w A2 n2 ys) (hn : n ≤ 1099511627776) (hn2 : n2 ≤ 1099511627776) :
    Calls Try.prog 94 #[.slice A n c, .slice A2 n2 c2] w fun e w' => e = .returned (.int .i64 (cmpL xs ys)) ∧ Drawn w w' := by
  have HL := Lib.hid (And.intro hs.1 hs2.1)
  go_enter Try.func94, Try.ntmps94
  go_wp2
  go_loopw [11] (fun iv wr => ∃ k : Nat, k ≤ n ∧ k ≤ n2 ∧ iv = .int .i64 k ∧ Drawn w wr ∧ cmpL xs ys = cmpL (xs.drop k) (ys.drop k))
    (fun iv _ => n - (intOf iv).toNat)
  case atStart => exact ⟨0, Nat.zero_le _, Nat.zero_le _, rfl, Drawn.refl _, by simp⟩
  case round =>
    obtain ⟨k, hk, hk2, rfl, hD, hq⟩ := hrel
    have HD := Lib.hid hD
    have HQ := Lib.hid hq
    have h1 := hD.si hs
    have h2 := hD.si hs2
    clear hD hq hs hs2
    by_cases hlt : k < n
    · have hlI : (k : Int) < (n : Int) := by omega
      obtain ⟨b, o, rfl, _, hc⟩ := h1.at_ (by omega)
      have hx := hc k hlt
      obtain ⟨x, hx0⟩ : ∃ x, x = nth xs k := ⟨_, rfl⟩
      rw [← hx0] at hx
      by_cases hlt2 : k < n2
      · have hlI2 : (k : Int) < (n2 : Int) := by omega
        obtain ⟨b2, o2, rfl, _, hc2⟩ := h2.at_ (by omega)
        have hy := hc2 k hlt2
        have HS := cmpL_at (xs := xs) (ys := ys) (k := k) (by have := HL.out; omega) (by have := HL.out; omega)
        obtain ⟨y, hy0⟩ : ∃ y, y = nth ys k := ⟨_, rfl⟩
        rw [← hx0] at HS
        rw [← hy0] at hy HS
        rw [← HQ.out] at HS
        have HS := Lib.hid HS
        have HC := Lib.hid (fun w => compare_any x y w)
        clear h1 h2 hc hc2 hx0 hy0
        by_cases hlt3 : x < y
        · have HF := Lib.hid (HS.out.trans (if_pos hlt3))
          have HC2 := HC.out
          rw [show cmpI x y = -1 from if_pos hlt3] at HC2
          have HC3 := Lib.hid HC2
          clear HC2 HC
          go_wp2_with (go_at_call 106; refine (HC3.out _).mono ?_; rintro e w1 ⟨rfl, rfl⟩)
          go_ret
          exact ⟨by rw [HF.out]; try rfl, HD.out⟩
        · by_cases hlt4 : y < x
          · have HF := Lib.hid (HS.out.trans ((if_neg hlt3).trans (if_pos hlt4)))
            have HC2 := HC.out
            rw [show cmpI x y = 1 from (if_neg hlt3).trans (if_pos hlt4)] at HC2
            have HC3 := Lib.hid HC2
            clear HC2 HC
            go_wp2_with (go_at_call 106; refine (HC3.out _).mono ?_; rintro e w1 ⟨rfl, rfl⟩)
            go_ret
            exact ⟨by rw [HF.out]; try rfl, HD.out⟩
          · have HF := Lib.hid (HS.out.trans ((if_neg hlt3).trans (if_neg hlt4)))
            have HC2 := HC.out
            rw [show cmpI x y = 0 from (if_neg hlt3).trans (if_neg hlt4)] at HC2
            have HC3 := Lib.hid HC2
            clear HC2 HC
            go_wp2_with (go_at_call 106; refine (HC3.out _).mono ?_; rintro e w1 ⟨rfl, rfl⟩)
            go_roundw
            case rel => exact ⟨k + 1, by omega, by omega, by go_num, HD.out, HF.out⟩
            case measure => simp [intOf]; omega
      · have hk2n : k = n2 := by omega
        subst hk2n
        have HF : Hid (cmpL xs ys = 1) := Lib.hid (by rw [HQ.out, cmpL_long (by have := HL.out; omega) (by have := HL.out; omega)])
        clear h1 h2 hc hx0
        go_wp2
        go_ret
        exact ⟨by rw [HF.out]; try rfl, HD.out⟩
    · have hkn : k = n := by omega
      have hlI : ¬ (k : Int) < (n : Int) := by omega
      clear h1 h2
      by_cases hlt2 : n < n2
      · have hn2n : (n : Int) < (n2 : Int) := by omega
        have HF : Hid (cmpL xs ys = -1) := Lib.hid (by rw [HQ.out, cmpL_short (by have := HL.out; omega) (by have := HL.out; omega)])
        go_wp2
        go_ret
        exact ⟨by rw [HF.out]; try rfl, HD.out⟩
      · have hn2n : ¬ (n : Int) < (n2 : Int) := by omega
        have HF : Hid (cmpL xs ys = 0) := Lib.hid (by rw [HQ.out, cmpL_end (by have := HL.out; omega) (by have := HL.out; omega)])
        go_wp2
        go_ret
        exact ⟨by rw [HF.out]; try rfl, HD.out⟩
end Go.Proofs.Ythinbmjcdcmioaa

/-
  What a shape is: the tests of both sides. Conditions: the length is at most 2^40.
-/

namespace Go.Proofs.Ythinbmjcdcmioaa
open Go.RowKit

/-- What a place of a shape may be at most: what stands before it, 16 at the first one. -/
def prevS (xs : List Int) : Nat → Int
  | 0 => 16
  | k + 1 => nth xs k
/-- Is place k of a list one that a shape may have. -/
def shapeAt (xs : List Int) (k : Nat) : Prop := 1 ≤ nth xs k ∧ nth xs k ≤ prevS xs k
instance (xs : List Int) (k : Nat) : Decidable (shapeAt xs k) := by unfold shapeAt; infer_instance
def isShapeP (xs : List Int) : Prop := xs.length ≤ 16 ∧ ∀ k, k < xs.length → shapeAt xs k
def isShapeB (xs : List Int) : Bool := decide (xs.length ≤ 16) && (List.range xs.length).all fun k => decide (shapeAt xs k)
theorem isShapeB_iff (xs : List Int) : isShapeB xs = true ↔ isShapeP xs := by simp [isShapeB, isShapeP]
theorem isShapeB_P {xs : List Int} (h : isShapeB xs = true) : isShapeP xs := (isShapeB_iff xs).1 h
theorem isShapeB_true {xs : List Int} (h : isShapeP xs) : isShapeB xs = true := (isShapeB_iff xs).2 h
theorem isShapeB_false {xs : List Int} (h : ¬ isShapeP xs) : isShapeB xs = false := by
  cases hb : isShapeB xs with
  | false => rfl
  | true => exact absurd (isShapeB_P hb) h
theorem prevS_le {xs : List Int} : ∀ {k : Nat}, (∀ j, j < k → shapeAt xs j) → prevS xs k ≤ 16
  | 0, _ => Int.le_refl _
  | k + 1, h => Int.le_trans (h k (by omega)).2 (prevS_le fun j hj => h j (by omega))

set_option maxHeartbeats 800000 in
theorem specIsShape_any (A : Option Addr) (n c : Nat) (xs : List Int) (w : World) (hs : SI w A n xs) (hn : n ≤ 1099511627776) :
    Calls Try.prog 15 #[.slice A n c] w fun e w' => e = .returned (.bool (isShapeB xs)) ∧ Drawn w w' := by
  have HL := Lib.hid hs.1
  by_cases h16 : n ≤ 16
  · go_enter Try.func15, Try.ntmps15
    go_wp2
    go_loopw [3] (fun i wr => ∃ k : Nat, k ≤ n ∧ i = .int .i64 k ∧ Drawn w wr ∧ ∀ j, j < k → shapeAt xs j)
      (fun i _ => n - (intOf i).toNat)
    case atStart => exact ⟨0, Nat.zero_le _, rfl, Drawn.refl _, fun j hj => absurd hj (by omega)⟩
    case round =>
      obtain ⟨k, hk, rfl, hD, hall⟩ := hrel
      have HA := Lib.hid hall
      have HD := Lib.hid hD
      have hs := hD.si hs
      clear hall hD
      by_cases hlt : k < n
      · obtain ⟨b, o, e1, hb, hc⟩ := hs.at_ (by omega)
        subst e1
        have hc1 := hc k hlt
        obtain ⟨x, hx⟩ : ∃ x, x = nth xs k := ⟨_, rfl⟩
        rw [← hx] at hc1
        have HX := Lib.hid hx
        have hlI : (k : Int) < (n : Int) := by omega
        by_cases hr : 1 ≤ x ∧ x ≤ 16
        · obtain ⟨hx0, hx1⟩ := hr
          cases k with
          | zero =>
            have HG : Hid (shapeAt xs 0) := Lib.hid (show 1 ≤ nth xs 0 ∧ nth xs 0 ≤ 16 by omega)
            rw [Nat.add_zero] at hc1
            clear hc hs hx
            go_wp2_with fail
            go_quiet ((go_at_call 55; exact Calls.quiet_of (l1In_yes hx0 hx1 _)))
            go_wp2
            go_roundw
            case rel => exact ⟨1, by omega, by go_num, HD.out.drewN _, fun j hj => by rw [show j = 0 from Nat.lt_one_iff.1 hj]; exact HG.out⟩
            case measure => simp [intOf]; omega
          | succ k =>
            have hc0 := hc k (by omega)
            obtain ⟨y, hy⟩ : ∃ y, y = nth xs k := ⟨_, rfl⟩
            rw [← hy] at hc0
            have HY := Lib.hid hy
            have hwk : IntKind.i64.wrap (((k + 1 : Nat) : Int) - 1) = (k : Int) := by rw [show ((k + 1 : Nat) : Int) - 1 = (k : Int) by omega]; exact IntWalk.i64_in _ (by omega)
            have hkI : (k : Int) < (n : Int) := by omega
            have hk0 : (0 : Int) < ((k + 1 : Nat) : Int) := by omega
            clear hc hs hx hy
            by_cases hyx : y < x
            · have HF := Lib.hid (isShapeB_false (xs := xs) (fun h => by
                have := (h.2 (k + 1) (by have := HL.out; omega)).2
                have e1 : prevS xs (k + 1) = nth xs k := rfl
                have := HX.out; have := HY.out
                omega))
              go_wp2_with fail
              go_quiet ((go_at_call 55; exact Calls.quiet_of (l1In_yes hx0 hx1 _)))
              go_wp2
              go_ret
              exact ⟨ret_bool HF.out.symm, HD.out.drewN _⟩
            · have HG : Hid (shapeAt xs (k + 1)) := Lib.hid (by
                have e1 : prevS xs (k + 1) = nth xs k := rfl
                have := HX.out; have := HY.out
                unfold shapeAt
                omega)
              go_wp2_with fail
              go_quiet ((go_at_call 55; exact Calls.quiet_of (l1In_yes hx0 hx1 _)))
              go_wp2
              go_roundw
              case rel => exact ⟨k + 1 + 1, by omega, by go_num, HD.out.drewN _, fun j hj => by
                rcases Nat.lt_or_ge j (k + 1) with h | h
                · exact HA.out j h
                · obtain rfl : j = k + 1 := by omega
                  exact HG.out⟩
              case measure => simp [intOf]; omega
        · have HF := Lib.hid (isShapeB_false (xs := xs) (fun h => by
            have h1 := h.2 k (by have := HL.out; omega)
            have h2 := prevS_le HA.out
            unfold shapeAt at h1
            have := HX.out
            omega))
          clear hc hs hx
          go_wp2_with fail
          go_quiet ((go_at_call 55; exact Calls.quiet_of (l1In_no (by omega) _)))
          go_wp2
          go_ret
          exact ⟨ret_bool HF.out.symm, HD.out.drewN _⟩
      · have hkn : k = n := by omega
        subst hkn
        go_wp2
        go_ret
        exact ⟨ret_bool (isShapeB_true ⟨by have := HL.out; omega, by rw [HL.out]; exact HA.out⟩).symm, HD.out⟩
  · have HF := Lib.hid (isShapeB_false (xs := xs) (fun h => by have := h.1; have := HL.out; omega))
    have h16' : (16 : Int) < (n : Int) := by omega
    go_enter Try.func15, Try.ntmps15
    go_wp2
    go_ret
    exact ⟨ret_bool HF.out.symm, Drawn.refl _⟩
set_option maxHeartbeats 800000 in
theorem implIsShape_any (A : Option Addr) (n c : Nat) (xs : List Int) (w : World) (hs : SI w A n xs) (hn : n ≤ 1099511627776) :
    Calls Try.prog 17 #[.slice A n c] w fun e w' => e = .returned (.bool (isShapeB xs)) ∧ Drawn w w' := by
  have HL := Lib.hid hs.1
  by_cases h16 : n ≤ 16
  · go_enter Try.func17, Try.ntmps17
    go_wp2
    go_loopw [3, 11] (fun m i wr => ∃ k : Nat, k ≤ n ∧ i = .int .i64 k ∧ m = .int .i64 (prevS xs k) ∧ Drawn w wr ∧ ∀ j, j < k → shapeAt xs j)
      (fun _ i _ => n - (intOf i).toNat)
    case atStart => exact ⟨0, Nat.zero_le _, rfl, rfl, Drawn.refl _, fun j hj => absurd hj (by omega)⟩
    case round =>
      obtain ⟨k, hk, rfl, rfl, hD, hall⟩ := hrel
      have HA := Lib.hid hall
      have HD := Lib.hid hD
      have hs := hD.si hs
      clear hall hD
      by_cases hlt : k < n
      · obtain ⟨b, o, e1, hb, hc⟩ := hs.at_ (by omega)
        subst e1
        have hc1 := hc k hlt
        obtain ⟨x, hx⟩ : ∃ x, x = nth xs k := ⟨_, rfl⟩
        rw [← hx] at hc1
        have HX := Lib.hid hx
        obtain ⟨y, hy⟩ : ∃ y, y = prevS xs k := ⟨_, rfl⟩
        rw [← hy]
        have HY := Lib.hid hy
        have hlI : (k : Int) < (n : Int) := by omega
        clear hc hs hx hy
        by_cases hg : 1 ≤ x ∧ x ≤ y
        · obtain ⟨hg1, hg2⟩ := hg
          have HG : Hid (shapeAt xs k) := Lib.hid (by have := HX.out; have := HY.out; unfold shapeAt; omega)
          go_wp2
          go_roundw
          case rel => exact ⟨k + 1, by omega, by go_num, by rw [HX.out]; rfl, HD.out, fun j hj => by
            rcases Nat.lt_or_ge j k with h | h
            · exact HA.out j h
            · obtain rfl : j = k := by omega
              exact HG.out⟩
          case measure => simp [intOf]; omega
        · have HF := Lib.hid (isShapeB_false (xs := xs) (fun h => by
            have h1 := h.2 k (by have := HL.out; omega)
            unfold shapeAt at h1
            have := HX.out; have := HY.out
            omega))
          by_cases hx1 : x < 1
          · go_wp2
            go_ret
            exact ⟨ret_bool HF.out.symm, HD.out⟩
          · have hyx : y < x := by omega
            clear hg
            go_wp2
            go_ret
            exact ⟨ret_bool HF.out.symm, HD.out⟩
      · have hkn : k = n := by omega
        subst hkn
        go_wp2
        go_ret
        exact ⟨ret_bool (isShapeB_true ⟨by have := HL.out; omega, by rw [HL.out]; exact HA.out⟩).symm, HD.out⟩
  · have HF := Lib.hid (isShapeB_false (xs := xs) (fun h => by have := h.1; have := HL.out; omega))
    have h16' : (16 : Int) < (n : Int) := by omega
    go_enter Try.func17, Try.ntmps17
    go_wp2
    go_ret
    exact ⟨ret_bool HF.out.symm, Drawn.refl _⟩
end Go.Proofs.Ythinbmjcdcmioaa

/-
  TermMem, for values of type Part instead of terms (made by wip/gen/gen_cls.py). Conditions: lengths below 2^40.
-/



namespace Go.Proofs.Ythinbmjcdcmioaa.Prt
open Go.RowKit
section
variable {w w' : World} {A : Option Addr} {n : Nat} {ts : List Tm}
end

/-- The slice (A, n, c) holds the terms ts: its block, and a block for the exponents of each term, all the call's own between lo and hi, no two of them one. -/
def OwnTP (w : World) (lo hi : Nat) (A : Option Addr) (n c : Nat) (ts : List Tm) : Prop :=
  ∃ E : Nat → Sv, ts.length = n ∧ w.ownsRow lo 68 2 (.slice A n c) n (cells2 n fun k => (sv (E k), .int .i64 (tm ts k).2)) ∧ (∀ k, (Value.slice A n c).ownBlock = some k → k < hi) ∧
    (∀ j, j < n → Own w lo hi (E j).1 (E j).2.1 (E j).2.2 (tm ts j).1) ∧ (∀ j g, j < n → (sv (E j)).ownBlock = some g → (Value.slice A n c).ownBlock ≠ some g) ∧
    (∀ i j g, i < j → j < n → (sv (E i)).ownBlock = some g → (sv (E j)).ownBlock ≠ some g)
section
variable {w w' : World} {lo hi n c : Nat} {A : Option Addr} {ts : List Tm}
theorem OwnTP.len (h : OwnTP w lo hi A n c ts) : ts.length = n := by obtain ⟨_, h1, _⟩ := h; exact h1
theorem OwnTP.nil (w : World) (lo hi : Nat) : OwnTP w lo hi none 0 0 [] :=
  ⟨fun _ => (none, 0, 0), rfl, by simpa [cells2] using World.ownsRow_nil _ _ _ _, fun k hk => by simp [Value.ownBlock] at hk, fun j hj => absurd hj (by omega), fun j g hj => absurd hj (by omega), fun i j g _ hj => absurd hj (by omega)⟩
theorem OwnTP.place (h : OwnTP w lo hi A n c ts) (hn : 0 < n) : ∃ g, A = some ⟨g, 0, none⟩ ∧ lo ≤ g ∧ g < hi := by
  obtain ⟨E, _, ho, hh, _⟩ := h
  obtain ⟨g, cap, e, h1, _⟩ := ho.form hn
  have hA : A = some ⟨g, 0, none⟩ := by injection e
  subst hA
  exact ⟨g, rfl, h1, hh g rfl⟩
theorem OwnTP.rd (h : OwnTP w lo hi A n c ts) : TS w A n ts := by
  refine ⟨h.len, fun hn => ?_⟩
  obtain ⟨g, rfl, _, _⟩ := h.place hn
  obtain ⟨E, hl, ho, hh, he, _⟩ := h
  refine ⟨g, 0, rfl, ?_, fun k hk => ?_⟩
  · obtain ⟨g', cap, e, _, h2⟩ := ho.form hn
    injection e with e1; injection e1 with e1; injection e1 with e1
    subst e1; exact h2
  · refine ⟨(E k).1, (E k).2.1, (E k).2.2, ?_, ?_, (he k hk).si, (he k hk).cap, ?_⟩
    · rw [Nat.zero_add, ho.cellAt (k * 2) (by omega), cells2_get0 _ hk]; rfl
    · rw [Nat.zero_add, ho.cellAt (k * 2 + 1) (by omega), cells2_get1 _ hk]
    · intro e
      have := he k hk
      rw [e] at this
      exact this.nilcap
theorem OwnTP.si (h : OwnTP w lo hi A n c ts) : TS w A n ts := h.rd
theorem OwnTP.below {B : Nat} (h : OwnTP w lo hi A n c ts) (hb : Below B w w') (hB : hi ≤ B) : OwnTP w' lo hi A n c ts := by
  obtain ⟨E, h1, h2, h3, h4, h5, h6⟩ := h
  refine ⟨E, h1, ⟨h2.1, ?_⟩, h3, fun j hj => (h4 j hj).below hb hB, h5, h6⟩
  rcases h2.2 with hn | ⟨g, cap, cur, e, hl, hg, rest⟩
  · exact .inl hn
  · have hlt := h3 g (by rw [e]; rfl)
    exact .inr ⟨g, cap, cur, e, hl, (hb.block g (by omega)).trans hg, rest⟩
theorem OwnTP.drawn (h : OwnTP w lo hi A n c ts) (hd : Drawn w w') : OwnTP w' lo hi A n c ts := h.below (hd.below hi) (Nat.le_refl _)
theorem OwnTP.cap (h : OwnTP w lo hi A n c ts) : n ≤ c := by
  obtain ⟨E, _, h2, _⟩ := h
  rcases h2.2 with ⟨e, h0⟩ | ⟨g, cap, cur, e, _, _, hc, _⟩
  · omega
  · injection e with _ _ e3; omega
end
theorem OwnTP.within {w w' : World} {lo hi n c lo' hi' : Nat} {A : Option Addr} {ts : List Tm} (h : OwnTP w lo hi A n c ts) (hw : Within lo' hi' w w') (hd : hi ≤ lo' ∨ hi' ≤ lo) : OwnTP w' lo hi A n c ts := by
  obtain ⟨E, h1, h2, h3, h4, h5, h6⟩ := h
  refine ⟨E, h1, ⟨h2.1, ?_⟩, h3, fun j hj => (h4 j hj).within hw hd, h5, h6⟩
  rcases h2.2 with hn | ⟨g, cap, cur, e, hl, hg, rest⟩
  · exact .inl hn
  · have hlt := h3 g (by rw [e]; rfl)
    have hsz := (h2.lt g (by rw [e]; rfl)).2
    exact .inr ⟨g, cap, cur, e, hl, (hw.2.2.2.2 g hsz (by omega)).trans hg, rest⟩
/-- What a call that makes a slice of terms hands back. -/
def FreshTP (w w' : World) (e : Ending) (ts : List Tm) : Prop :=
  ∃ A n c, e = .returned (.slice A n c) ∧ OwnTP w' w.heap.size w'.heap.size A n c ts ∧ Below w.heap.size w w'

theorem row_eqP {w : World} {lo : Nat} {v : Value} {n : Nat} {xs ys : List Value} (h : w.ownsRow lo 68 2 v n xs) (e : xs = ys) : w.ownsRow lo 68 2 v n ys := e ▸ h
/-- One term stored: its exponents lie in a newer block of the call's own. -/
theorem OwnTP.put {w : World} {lo hi g n c : Nat} {ts : List Tm} (h : OwnTP w lo hi (some ⟨g, 0, none⟩) n c ts) {k : Nat} (hk : k < n) {lo' hi' n' c' : Nat} {A' : Option Addr} {xs : List Int} (hx : Own w lo' hi' A' n' c' xs)
    (h1 : hi ≤ lo') (h2 : lo ≤ lo') (h3 : hi ≤ hi') (x : Int) :
    OwnTP ((w.setCell ⟨g, k * 2, none⟩ (.slice A' n' c')).setCell ⟨g, k * 2 + 1, none⟩ (.int .i64 x)) lo hi' (some ⟨g, 0, none⟩) n c (ts.set k (xs, x)) ∧
      w.grownBy ((w.setCell ⟨g, k * 2, none⟩ (.slice A' n' c')).setCell ⟨g, k * 2 + 1, none⟩ (.int .i64 x)) (some g) := by
  obtain ⟨E, hl, ho, hh, he, hne, hdd⟩ := h
  have hgl := hh g rfl
  obtain ⟨o1, g1⟩ := ho.stored (k * 2) (.slice A' n' c')
  obtain ⟨o2, g2⟩ := o1.stored (k * 2 + 1) (.int .i64 x)
  have gg := g1.trans g2
  refine ⟨⟨fun j => if j = k then (A', n', c') else E j, by simpa using hl, ?_, fun b hb => by have := hh b hb; omega, fun j hj => ?_, fun j b hj hb => ?_, fun i j b hij hj hb => ?_⟩, gg⟩
  · rw [cells2_set0 _ hk, cells2_set1 _ hk] at o2
    refine row_eqP o2 ?_
    apply cells2_congr
    intro j hj
    dsimp only
    rw [tm_set (by omega)]
    by_cases e : j = k
    · subst e; simp [sv]
    · simp [e]
  · dsimp only
    rw [tm_set (by omega)]
    by_cases e : j = k
    · rw [if_pos e, if_pos e]
      exact (hx.grown gg (fun b hb => .inl (by injection hb with hb; omega))).wide h2 (Nat.le_refl _)
    · rw [if_neg e, if_neg e]
      exact ((he j hj).kept gg (fun b hb => hne j b hj hb)).wide (Nat.le_refl _) h3
  · dsimp only at hb
    by_cases e : j = k
    · rw [if_pos e] at hb
      have := hx.lt b hb
      intro e2; injection e2 with e2; dsimp only at e2; omega
    · rw [if_neg e] at hb
      exact hne j b hj hb
  · dsimp only at hb ⊢
    by_cases e : i = k
    · rw [if_pos e] at hb
      rw [if_neg (by omega)]
      intro e2
      have := hx.lt b hb
      have := (he j hj).2 b e2
      omega
    · rw [if_neg e] at hb
      by_cases e' : j = k
      · rw [if_pos e']
        intro e2
        have := hx.lt b e2
        have := (he i (by omega)).2 b hb
        omega
      · rw [if_neg e']
        exact hdd i j b hij hj hb
/-- Only the number of a term stored. -/
theorem OwnTP.put2 {w : World} {lo hi g n c : Nat} {ts : List Tm} (h : OwnTP w lo hi (some ⟨g, 0, none⟩) n c ts) {k : Nat} (hk : k < n) (x : Int) :
    OwnTP (w.setCell ⟨g, k * 2 + 1, none⟩ (.int .i64 x)) lo hi (some ⟨g, 0, none⟩) n c (ts.set k ((tm ts k).1, x)) ∧ w.grownBy (w.setCell ⟨g, k * 2 + 1, none⟩ (.int .i64 x)) (some g) := by
  obtain ⟨E, hl, ho, hh, he, hne, hdd⟩ := h
  obtain ⟨o2, gg⟩ := ho.stored (k * 2 + 1) (.int .i64 x)
  refine ⟨⟨E, by simpa using hl, ?_, hh, fun j hj => ?_, hne, hdd⟩, gg⟩
  · rw [cells2_set1 _ hk] at o2
    refine row_eqP o2 ?_
    apply cells2_congr
    intro j hj
    dsimp only
    rw [tm_set (by omega)]
    by_cases e : j = k
    · subst e; simp
    · simp [e]
  · rw [tm_set (by omega)]
    have := (he j hj).kept gg (fun b hb => hne j b hj hb)
    by_cases e : j = k
    · subst e; rw [if_pos rfl]; exact this
    · rw [if_neg e]; exact this
/-- The exponents of one term, at its place. -/
theorem OwnTP.exp {w : World} {lo hi g n c : Nat} {ts : List Tm} (h : OwnTP w lo hi (some ⟨g, 0, none⟩) n c ts) {k : Nat} (hk : k < n) :
    ∃ A' n' c', w.cell? ⟨g, k * 2, none⟩ = some (.slice A' n' c') ∧ w.cell? ⟨g, k * 2 + 1, none⟩ = some (.int .i64 (tm ts k).2) ∧ (∀ j, w.frozen? ⟨g, j, none⟩ = false) ∧ Own w lo hi A' n' c' (tm ts k).1 ∧
      ∀ w' ys, Own w' lo hi A' n' c' ys → w.grownBy w' (Value.slice A' n' c').ownBlock → OwnTP w' lo hi (some ⟨g, 0, none⟩) n c (ts.set k (ys, (tm ts k).2)) := by
  obtain ⟨E, hl, ho, hh, he, hne, hdd⟩ := h
  refine ⟨(E k).1, (E k).2.1, (E k).2.2, ?_, ?_, fun j => ho.frozenAt j, he k hk, ?_⟩
  · rw [ho.cellAt (k * 2) (by omega), cells2_get0 _ hk]; rfl
  · rw [ho.cellAt (k * 2 + 1) (by omega), cells2_get1 _ hk]
  · intro w' ys hy hg
    refine ⟨E, by simpa using hl, ?_, hh, fun j hj => ?_, hne, hdd⟩
    · have o2 := ho.kept hg (.inr fun e => hne k g hk e.symm rfl)
      refine row_eqP o2 ?_
      apply cells2_congr
      intro j hj
      rw [tm_set (by omega)]
      by_cases e : j = k
      · subst e; simp
      · simp [e]
    · rw [tm_set (by omega)]
      by_cases e : j = k
      · subst e; rw [if_pos rfl]; exact hy
      · rw [if_neg e]
        refine (he j hj).kept hg (fun b hb e2 => ?_)
        rcases Nat.lt_or_ge j k with h | h
        · exact hdd j k b h hk hb e2
        · exact hdd k j b (by omega) hj e2 hb
theorem OwnTP.zeros {w : World} {lo g n c : Nat} (h : w.ownsRow lo 68 2 (.slice (some ⟨g, 0, none⟩) n c) n (madeCells #[.slice none 0 0, .int .i64 0] (n * 2)).toList) (hg : g < w.heap.size) : OwnTP w lo w.heap.size (some ⟨g, 0, none⟩) n c (zeroT n) := by
  refine ⟨fun _ => (none, 0, 0), by simp [zeroT], ?_, fun b hb => by simp [Value.ownBlock] at hb; omega, fun j hj => ?_, fun j b hj hb => by simp [sv, Value.ownBlock] at hb, fun i j b _ hj hb => by simp [sv, Value.ownBlock] at hb⟩
  · refine row_eqP h ?_
    apply List.ext_getElem?
    intro j
    by_cases hj : j < n * 2
    · rw [cells2_get _ hj, zeroT_tm]
      rcases Nat.mod_two_eq_zero_or_one j with e | e
      · simp [madeCells, hj, e, sv]
      · simp [madeCells, hj, e]
    · rw [List.getElem?_eq_none (by simp [madeCells]; omega), List.getElem?_eq_none (by rw [cells2_len]; omega)]
  · rw [zeroT_tm]; exact Own.nil _ _ _
end Go.Proofs.Ythinbmjcdcmioaa.Prt

/-
  TermHelp, for values of type Part instead of terms (made by wip/gen/gen_cls.py). Conditions: lengths below 2^40.
-/


namespace Go.Proofs.Ythinbmjcdcmioaa.Prt
open Go.RowKit
theorem Try.infoTermP : (Try.prog.info? 68).map (·.size) = some 2 := by kernel_rfl
theorem Try.infoTermLP : (Try.prog.info? 67).map (·.size) = some 2 := by kernel_rfl

set_option maxHeartbeats 400000 in
theorem toTerm_anyP (A : Option Addr) (n c : Nat) (xs : List Int) (x : Int) (w : World) (hs : SI w A n xs) (hn : n ≤ 1099511627776) :
    Calls Try.prog 64 #[.agg #[.slice A n c, .int .i64 x]] w fun e w' => ∃ A' n' c', e = .returned (.agg #[.slice A' n' c', .int .i64 x]) ∧ Own w' w.heap.size w'.heap.size A' n' c' xs ∧ Below w.heap.size w w' := by
  go_enter Try.func64, Try.ntmps64
  go_wp2_with fail
  obtain ⟨g1, hg1⟩ : ∃ g1, g1 = w.heap.size := ⟨_, rfl⟩
  have hK1 : Blk (((w.alloc (.cells #[.slice A n c, .int .i64 x] 67)).alloc (.cells #[.slice none 0 0, .int .i64 0] 68)).alloc (.cells #[.slice none 0 0, .int .i64 0] 68)) g1 67 #[.slice A n c, .int .i64 x] := by rw [hg1]; exact ((Blk.new w _ _).alloc _).alloc _
  have hK2 : Blk (((w.alloc (.cells #[.slice A n c, .int .i64 x] 67)).alloc (.cells #[.slice none 0 0, .int .i64 0] 68)).alloc (.cells #[.slice none 0 0, .int .i64 0] 68)) (w.heap.size + 1) 68 #[.slice none 0 0, .int .i64 0] := by
    have := (Blk.new (w.alloc (.cells #[.slice A n c, .int .i64 x] 67)) 68 #[.slice none 0 0, .int .i64 0]).alloc (.cells #[.slice none 0 0, .int .i64 0] 68)
    simpa using this
  have hK3 : Blk (((w.alloc (.cells #[.slice A n c, .int .i64 x] 67)).alloc (.cells #[.slice none 0 0, .int .i64 0] 68)).alloc (.cells #[.slice none 0 0, .int .i64 0] 68)) (w.heap.size + 1 + 1) 68 #[.slice none 0 0, .int .i64 0] := by
    have := (Blk.new ((w.alloc (.cells #[.slice A n c, .int .i64 x] 67)).alloc (.cells #[.slice none 0 0, .int .i64 0] 68)) 68 #[.slice none 0 0, .int .i64 0])
    simpa using this
  have hb3 : Below w.heap.size w (((w.alloc (.cells #[.slice A n c, .int .i64 x] 67)).alloc (.cells #[.slice none 0 0, .int .i64 0] 68)).alloc (.cells #[.slice none 0 0, .int .i64 0] 68)) := by go_grown
  have hs3 := hs.below hb3 (Nat.le_refl _)
  generalize (((w.alloc (.cells #[.slice A n c, .int .i64 x] 67)).alloc (.cells #[.slice none 0 0, .int .i64 0] 68)).alloc (.cells #[.slice none 0 0, .int .i64 0] 68)) = w3 at *
  rw [← hg1] at hK2 hK3 ⊢
  refine (toIntS_fr _ _ _ xs _ hs3 hn).mono ?_
  rintro e w4 ⟨A4, n4, c4, rfl, ho, hb4⟩
  have hL3 := hK3.lt
  have hb : Below w.heap.size w w4 := hb3.trans (hb4.mono hb3.size)
  have HO := Lib.hid ho
  have HB := Lib.hid hb
  have K1 := hK1.below hb4 hK1.lt
  have K2 := hK2.below hb4 hK2.lt
  have K3 := hK3.below hb4 hK3.lt
  have hc1 : w4.cell? ⟨g1, 1, none⟩ = some (.int .i64 x) := K1.cell 1
  have hc3 : w4.cell? ⟨g1 + 1 + 1, 0, none⟩ = some (.slice none 0 0) := K3.cell 0
  have hf3 := K3.frozen 0
  have hc4 : w4.cell? ⟨g1 + 1 + 1, 1, none⟩ = some (.int .i64 0) := K3.cell 1
  have hf4 := K3.frozen 1
  have hc5 : w4.cell? ⟨g1 + 1, 0, none⟩ = some (.slice none 0 0) := K2.cell 0
  have hf5 := K2.frozen 0
  have hc6 : w4.cell? ⟨g1 + 1, 1, none⟩ = some (.int .i64 0) := K2.cell 1
  have hf6 := K2.frozen 1
  have H2 := Lib.hid K2
  have HG := Lib.hid hg1
  have HL := Lib.hid hL3
  clear ho hb K1 K2 K3 hK1 hK2 hK3 hb3 hs3 hb4 hg1 hL3 hs
  go_wp2
  have HG := HG.out
  have HL := HL.out
  have R := ((((H2.out.far (p := ⟨g1 + 1 + 1, 0, none⟩) (by show g1 + 1 ≠ g1 + 1 + 1; omega) (.slice A4 n4 c4)).far (p := ⟨g1 + 1 + 1, 1, none⟩) (by show g1 + 1 ≠ g1 + 1 + 1; omega) (.int .i64 x)).set_ 0 (.slice A4 n4 c4)).set_ 1 (.int .i64 x))
  have gs : w4.grownBy (w4.setCell ⟨g1 + 1 + 1, 0, none⟩ (.slice A4 n4 c4)) (some (g1 + 1 + 1)) := grown_set _ _ _
  refine bodyPost_ret (results_row Try.results64 _ _ (g1 + 1) 68 #[.slice A4 n4 c4, .int .i64 x] _ rfl R Try.underlying68 rfl (by kernel_rfl)) rfl ?_
  refine ⟨A4, n4, c4, rfl, ?_, ?_⟩
  · refine ((((HO.out.kept (grown_set _ _ _) ?_).kept (grown_set _ _ _) ?_).kept (grown_set _ _ _) ?_).kept (grown_set _ _ _) ?_).wide (by omega) (by simp) <;>
      (intro b hb e; have := HO.out.lt b hb; injection e with e; simp only [] at e; omega)
  · exact (((HB.out.setCell (by show w.heap.size ≤ g1 + 1 + 1; omega) _).setCell (by show w.heap.size ≤ g1 + 1 + 1; omega) _).setCell (by show w.heap.size ≤ g1 + 1; omega) _).setCell (by show w.heap.size ≤ g1 + 1; omega) _

theorem Try.infoTermZP : (Try.prog.info? 68).map (fun i => (i.zero, i.size, i.bytes)) = some (some (.agg #[.slice none 0 0, .int .i64 0]), 2, 32) := by kernel_rfl
/-- 'make([]Term, n)'. -/
theorem wpList_make_termsP {ops : Array Oper} {rest : List Oper} {o : Oper} {a : Act} {w : World} {Q : Exit → Act → World → Prop} (hgd : o.guard = none) (l c : Operand) (ho : o.op = .makeSlice 35 l c)
    (n : Nat) (hl : a.eval l = .int .i64 n) (hc : a.eval c = .int .i64 n) (hn : n ≤ 1099511627776)
    (hK : ∀ w', OwnTP w' w.heap.size w'.heap.size (some ⟨w.heap.size, 0, none⟩) n n (zeroT n) → Below w.heap.size w w' → wpList Try.prog ops Q rest (a.put o.dst (.slice (some ⟨w.heap.size, 0, none⟩) n n)) w') :
    wpList Try.prog ops Q (o :: rest) a w := by
  obtain ⟨i0, hi, hz0, hz1, hz2⟩ := info_parts Try.infoTermZP
  refine wpList_make_full w hgd l c 35 ho w.heap.size 68 i0 (.agg #[.slice none 0 0, .int .i64 0]) 2 Try.underlying35 hi hz0 hz1 .i64 .i64 n n n hl hc rfl rfl (by rw [hz2]; omega) (by unfold maxLen; omega) (Nat.le_refl _) ?_
  intro w1 ho1 hg1
  refine hK w1 (OwnTP.zeros ho1 ?_) (grow_below hg1 (Nat.le_refl _) (by intro k hk; cases hk))
  exact (ho1.lt w.heap.size rfl).2
set_option maxHeartbeats 800000 in
theorem toTermS_anyP (A : Option Addr) (n c : Nat) (ts : List Tm) (w : World) (hs : TS w A n ts) (hn : n ≤ 1099511627776) (hne : ∀ k, k < n → (tm ts k).1.length ≤ 1099511627776) :
    Calls Try.prog 32 #[.slice A n c] w fun e w' => FreshTP w w' e ts := by
  have hl := hs.1
  have HNE := Lib.hid hne
  have HL := Lib.hid hl
  obtain ⟨B, hB⟩ : ∃ B, B = w.heap.size := ⟨_, rfl⟩
  have HB0 : Hid (B = w.heap.size) := hB
  clear hne
  go_enter Try.func32, Try.ntmps32
  go_wp2_with (at_make; refine wpList_make_termsP rfl (.tmp 6) (.tmp 6) rfl n rfl rfl hn ?_; intro w1 hown hbel1)
  rw [← hB] at hown hbel1 ⊢
  go_loopw [4] (fun i wr => ∃ k : Nat, k ≤ n ∧ i = .int .i64 k ∧ OwnTP wr B wr.heap.size (some ⟨B, 0, none⟩) n n (copT ts k) ∧ Below B w wr)
    (fun i _ => n - (intOf i).toNat)
  case atStart =>
    refine ⟨0, Nat.zero_le _, rfl, ?_, hbel1⟩
    rw [copT_zero, hl]; exact hown
  case round =>
    obtain ⟨k, hk, rfl, hown2, hbel⟩ := hrel
    clear hown hbel1 w1
    have HO := Lib.hid hown2
    have HB := Lib.hid hbel
    by_cases hlt : k < n
    · obtain ⟨b, o, A', n', c', rfl, hb, hc0, hc1, hsi, hnc, hnil⟩ := (hs.below hbel (by omega)).at_ hlt
      obtain ⟨x, hx⟩ : ∃ x, x = (tm ts k).2 := ⟨_, rfl⟩
      obtain ⟨xs, hxs⟩ : ∃ xs, xs = (tm ts k).1 := ⟨_, rfl⟩
      rw [← hx] at hc1
      rw [← hxs] at hsi
      have hn' : n' ≤ 1099511627776 := by have := HNE.out k hlt; rw [← hxs] at this; have := hsi.1; omega
      have HX := Lib.hid hx
      have HXS := Lib.hid hxs
      have HSI := Lib.hid hsi
      clear hx hxs hown2 hbel hs hl hsi hB
      have hlI : (k : Int) < (n : Int) := by omega
      go_wp2_with fail
      refine (toTerm_anyP _ _ _ xs x _ HSI.out hn').mono ?_
      rintro e w2 ⟨A2, n2, c2, rfl, ho2, hb2⟩
      have hO2 := HO.out.below hb2 (Nat.le_refl _)
      obtain ⟨A3, n3, c3, hd0, hd1, hfz, _⟩ := hO2.exp hlt
      have hf0 := hfz (k * 2)
      have hf1 := hfz (k * 2 + 1)
      have hput := hO2.put hlt ho2 (Nat.le_refl _) (Nat.le_trans (by have := HB0.out; have := HB.out.size; omega) (Nat.le_refl _)) hb2.size x
      have HP := Lib.hid hput
      have HB2 := Lib.hid (HB.out.trans (hb2.mono (by have := HB.out.size; have := HB0.out; omega)))
      have HBW := Lib.hid (Nat.le_refl B)
      clear hfz hput hO2 ho2 hb2 HSI hc0 hc1
      go_wp2
      go_roundw
      case rel =>
        refine ⟨k + 1, by omega, by go_num, ?_, ?_⟩
        · have h1 := HP.out.1
          rw [HX.out, HXS.out, copT_succ (by rw [HL.out]; exact hlt)] at h1
          rw [HX.out]
          simpa using h1
        · exact HB2.out.grown HP.out.2 (by have := HB2.out.size; have := HB0.out; omega) (by rintro q ⟨⟩; exact Nat.le_refl _)
      case measure => simp [intOf]; omega
    · have hkn : k = n := by omega
      subst hkn
      go_wp2
      go_ret
      have e := HB0.out
      subst e
      refine ⟨_, _, _, rfl, ?_, HB.out⟩
      have := HO.out
      rw [← HL.out, copT_all] at this
      rw [← HL.out]
      exact this
end Go.Proofs.Ythinbmjcdcmioaa.Prt

/-
  TermEq, for values of type Part instead of terms (made by wip/gen/gen_cls.py). Conditions: lengths below 2^40.
-/





namespace Go.Proofs.Ythinbmjcdcmioaa.Prt
open Go.RowKit
section
variable {P : Program} {ops : Array Oper} {C : World → Prop} {Q : Act → Prop} {a : Act} {o : Oper} {rest : List Oper}
end
set_option maxHeartbeats 400000 in
theorem szTerm_anyP (A : Option Addr) (n c : Nat) (x l : Int) (w : World) (hn : n ≤ 9223372036854775807) (h0 : 0 ≤ l) (h1 : l ≤ 1048576) :
    Calls Try.prog 62 #[.agg #[.slice A n c, .int .i64 x], .int .i64 l] w fun e w' => e = .returned (.int .i64 (if l < (n : Int) then -1 else l - n)) ∧ Below w.heap.size w w' := by
  by_cases h : l < (n : Int)
  · rw [if_pos h]
    have hS := fun w => szIntS_any A n c l w hn h0 h1
    rw [if_pos h] at hS
    have HS := Lib.hid hS
    clear hS
    go_enter Try.func62, Try.ntmps62
    go_wp2_with fail
    refine (HS.out _).mono ?_
    rintro e w1 ⟨rfl, rfl⟩
    go_wp2
    go_ret
    exact ⟨rfl, by go_grown⟩
  · rw [if_neg h]
    have hS := fun w => szIntS_any A n c l w hn h0 h1
    rw [if_neg h] at hS
    have HS := Lib.hid hS
    have h2 : ¬ l - (n : Int) < 0 := by omega
    clear hS
    go_enter Try.func62, Try.ntmps62
    go_wp2_with fail
    refine (HS.out _).mono ?_
    rintro e w1 ⟨rfl, rfl⟩
    obtain ⟨m, hm⟩ : ∃ m, m = l - (n : Int) := ⟨_, rfl⟩
    have HM := Lib.hid hm
    rw [← hm] at h2 ⊢
    clear hm
    go_wp2
    go_ret
    exact ⟨ret_int HM.out, by go_grown⟩

set_option maxHeartbeats 400000 in
theorem eqTerm_anyP (A A' : Option Addr) (n c n' c' : Nat) (xs ys : List Int) (x y : Int) (w : World) (hs : SI w A n xs) (hs' : SI w A' n' ys) (hn : n ≤ 1099511627776) (hn' : n' ≤ 1099511627776) :
    Calls Try.prog 66 #[.agg #[.slice A n c, .int .i64 x], .agg #[.slice A' n' c', .int .i64 y]] w fun e w' => e = .returned (.bool (decide ((xs, x) = (ys, y)))) ∧ Below w.heap.size w w' := by
  have hE := eqIntS_any A A' n c n' c' xs ys ((w.alloc (.cells #[.slice A n c, .int .i64 x] 68)).alloc (.cells #[.slice A' n' c', .int .i64 y] 68)) ((hs.alloc _).alloc _) ((hs'.alloc _).alloc _) hn hn'
  have HE := Lib.hid hE
  clear hE hs hs'
  cases hb : eqL xs ys with
  | false =>
    have hne : ¬ xs = ys := by simpa [eqL] using hb
    rw [hb] at HE
    have HN := Lib.hid hne
    clear hne hb
    go_enter Try.func66, Try.ntmps66
    go_wp2_with fail
    refine HE.out.mono ?_
    rintro e w1 ⟨rfl, m, rfl⟩
    go_wp2
    go_ret
    exact ⟨ret_bool (by simp [HN.out]), Below.drawnN (by go_grown) m⟩
  | true =>
    have he : xs = ys := by simpa [eqL] using hb
    rw [hb] at HE
    have HN := Lib.hid he
    clear he hb
    by_cases hxy : x = y
    · subst hxy
      go_enter Try.func66, Try.ntmps66
      go_wp2_with fail
      refine HE.out.mono ?_
      rintro e w1 ⟨rfl, m, rfl⟩
      go_wp2
      go_ret
      exact ⟨ret_bool (by simp [HN.out]), Below.drawnN (by go_grown) m⟩
    · have hb : (x != y) = true := by simpa using hxy
      have HXY := Lib.hid hxy
      clear hxy
      go_enter Try.func66, Try.ntmps66
      go_wp2_with fail
      refine HE.out.mono ?_
      rintro e w1 ⟨rfl, m, rfl⟩
      go_wp2
      go_ret
      exact ⟨ret_bool (by simp [HXY.out]), Below.drawnN (by go_grown) m⟩

set_option maxHeartbeats 800000 in
/-- szTermS: below 0, or everything is small. -/
theorem szTermS_anyP (A : Option Addr) (n c : Nat) (ts : List Tm) (w : World) (hs : TS w A n ts) (hn : n ≤ 9223372036854775807) (hne : ∀ k, k < n → (tm ts k).1.length ≤ 9223372036854775807) :
    Calls Try.prog 30 #[.slice A n c, .int .i64 1048576] w fun e w' => (∃ r : Int, e = .returned (.int .i64 r) ∧ (r < 0 ∨ (0 ≤ r ∧ n ≤ 1048576 ∧ ∀ k, k < n → (tm ts k).1.length ≤ 1048576))) ∧ Below w.heap.size w w' := by
  have HNE := Lib.hid hne
  clear hne
  by_cases hbig : (1048576 : Int) < (n : Int)
  · have h' : (1048576 : Int) - (n : Int) < 0 := by omega
    have hw : IntKind.i64.wrap (1048576 - (n : Int)) = 1048576 - (n : Int) := IntWalk.i64_in _ (by omega)
    go_enter Try.func30, Try.ntmps30
    go_wp2
    go_ret
    exact ⟨⟨_, rfl, .inl (by omega)⟩, Below.refl _ _⟩
  · have h' : ¬ (1048576 : Int) - (n : Int) < 0 := by omega
    have hw : IntKind.i64.wrap (1048576 - (n : Int)) = 1048576 - (n : Int) := IntWalk.i64_in _ (by omega)
    go_enter Try.func30, Try.ntmps30
    go_wp2
    go_loopw [1, 5] (fun v i wr => ∃ (k : Nat) (l : Int), k ≤ n ∧ i = .int .i64 k ∧ v = .int .i64 l ∧ 0 ≤ l ∧ l ≤ 1048576 ∧ (∀ j, j < k → (tm ts j).1.length ≤ 1048576) ∧ Below w.heap.size w wr)
      (fun _ i _ => n - (intOf i).toNat)
    case atStart => exact ⟨0, _, Nat.zero_le _, rfl, rfl, by omega, by omega, fun j hj => absurd hj (by omega), Below.refl _ _⟩
    case round =>
      obtain ⟨k, l, hk, rfl, rfl, hl0, hl1, hall, hbel⟩ := hrel
      have HA := Lib.hid hall
      have HB := Lib.hid hbel
      clear hall
      clear h' hw
      by_cases hlt : k < n
      · obtain ⟨b, o, A', n', c', rfl, hb, hc0, hc1, hsi, hnc, hnil⟩ := (hs.below hbel (by omega)).at_ hlt
        obtain ⟨x, hx⟩ : ∃ x, x = (tm ts k).2 := ⟨_, rfl⟩
        rw [← hx] at hc1
        have hlen := hsi.1
        have hn' : n' ≤ 9223372036854775807 := by have := HNE.out k hlt; omega
        have HLEN := Lib.hid hlen
        clear hx hsi hbel hs hlen hnil
        have hlI : (k : Int) < (n : Int) := by omega
        by_cases hsm : l < (n' : Int)
        · have hS := fun w => szTerm_anyP A' n' c' x l w hn' hl0 hl1
          rw [if_pos hsm] at hS
          have HS := Lib.hid hS
          clear hS
          go_wp2_with fail
          refine (HS.out _).mono ?_
          rintro e w2 ⟨rfl, hb2⟩
          have HB2 := Lib.hid (HB.out.trans (hb2.mono HB.out.size))
          clear hb2
          go_wp2
          go_ret
          exact ⟨⟨_, rfl, .inl (by omega)⟩, HB2.out⟩
        · have hS := fun w => szTerm_anyP A' n' c' x l w hn' hl0 hl1
          rw [if_neg hsm] at hS
          obtain ⟨m, hm⟩ : ∃ m, m = l - (n' : Int) := ⟨_, rfl⟩
          rw [← hm] at hS
          have HS := Lib.hid hS
          have hm0 : 0 ≤ m := by omega
          have hm1 : m ≤ 1048576 := by omega
          have hmn : ¬ m < 0 := by omega
          have hsml : n' ≤ 1048576 := by omega
          clear hS hm
          go_wp2_with fail
          refine (HS.out _).mono ?_
          rintro e w2 ⟨rfl, hb2⟩
          have HB2 := Lib.hid (HB.out.trans (hb2.mono HB.out.size))
          clear hb2
          go_wp2
          go_roundw
          case rel => exact ⟨k + 1, m, by omega, by go_num, rfl, hm0, hm1, fun j hj => by
            rcases Nat.lt_or_ge j k with h | h
            · exact HA.out j h
            · obtain rfl : j = k := by omega
              have := HLEN.out
              omega, HB2.out⟩
          case measure => simp [intOf]; omega
      · have hkn : k = n := by omega
        subst hkn
        go_wp2
        go_ret
        exact ⟨⟨l, rfl, .inr ⟨hl0, by omega, HA.out⟩⟩, HB.out⟩

set_option maxHeartbeats 1600000 in
theorem eqTermS_anyP (A A' : Option Addr) (n c n' c' : Nat) (ts us : List Tm) (w : World) (hs : TS w A n ts) (hs' : TS w A' n' us) (hn : n ≤ 1099511627776) (hn' : n' ≤ 1099511627776)
    (hne : ∀ k, k < n → (tm ts k).1.length ≤ 1099511627776) (hne' : ∀ k, k < n' → (tm us k).1.length ≤ 1099511627776) :
    Calls Try.prog 34 #[.slice A n c, .slice A' n' c'] w fun e w' => e = .returned (.bool (eqTs ts us)) ∧ Below w.heap.size w w' := by
  have HNE := Lib.hid (And.intro hne hne')
  have HL := Lib.hid (And.intro hs.1 hs'.1)
  clear hne hne'
  by_cases hnn : n = n'
  · subst hnn
    go_enter Try.func34, Try.ntmps34
    go_wp2
    go_loopw [5] (fun i wr => ∃ k : Nat, k ≤ n ∧ i = .int .i64 k ∧ (∀ j, j < k → tm ts j = tm us j) ∧ Below w.heap.size w wr)
      (fun i _ => n - (intOf i).toNat)
    case atStart => exact ⟨0, Nat.zero_le _, rfl, fun j hj => absurd hj (by omega), Below.refl _ _⟩
    case round =>
      obtain ⟨k, hk, rfl, hall, hbel⟩ := hrel
      have HA := Lib.hid hall
      have HB := Lib.hid hbel
      clear hall
      by_cases hlt : k < n
      · obtain ⟨b, o, A1, n1, c1, rfl, hb, hc0, hc1, hsi, hnc, hnil⟩ := (hs.below hbel (by omega)).at_ hlt
        obtain ⟨b', o', A2, n2, c2, rfl, hb', hc0', hc1', hsi', hnc', hnil'⟩ := (hs'.below hbel (by omega)).at_ hlt
        have hl1 : n1 ≤ 1099511627776 := by have := HNE.out.1 k hlt; have := hsi.1; omega
        have hl2 : n2 ≤ 1099511627776 := by have := HNE.out.2 k hlt; have := hsi'.1; omega
        have hlI : (k : Int) < (n : Int) := by omega
        have R1 := TS.range hc0 hc1
        have R2 := TS.range hc0' hc1'
        have call : ∀ w', AfterT wr w' → Calls Try.prog 66 #[.agg #[.slice A1 n1 c1, .int .i64 (tm ts k).2], .agg #[.slice A2 n2 c2, .int .i64 (tm us k).2]] w' (fun e w'' => e = .returned (.bool (decide (tm ts k = tm us k))) ∧ AfterT wr w'') := fun w' hw' =>
          (eqTerm_anyP A1 A2 n1 c1 n2 c2 _ _ _ _ w' (hsi.below hw' (Nat.le_refl _)) (hsi'.below hw' (Nat.le_refl _)) hl1 hl2).mono fun e w'' ⟨he, hb⟩ => ⟨he, Below.trans hw' (hb.mono hw'.size)⟩
        have LD1 : ∀ w', AfterT wr w' → w'.rangeAt b (o + k * 2) [.slice A1 n1 c1, .int .i64 (tm ts k).2] := fun w' hw' j v hj => by
          rw [Below.cell hw' (p := ⟨b, o + k * 2 + j, none⟩) hb]; exact R1 j v hj
        have LD2 : ∀ w', AfterT wr w' → w'.rangeAt b' (o' + k * 2) [.slice A2 n2 c2, .int .i64 (tm us k).2] := fun w' hw' j v hj => by
          rw [Below.cell hw' (p := ⟨b', o' + k * 2 + j, none⟩) hb']; exact R2 j v hj
        obtain ⟨x, hx⟩ : ∃ x, x = (tm ts k).2 := ⟨_, rfl⟩
        obtain ⟨y, hy⟩ : ∃ y, y = (tm us k).2 := ⟨_, rfl⟩
        obtain ⟨q, hq⟩ : ∃ q, q = decide (tm ts k = tm us k) := ⟨_, rfl⟩
        rw [← hx] at LD1 call
        rw [← hy] at LD2 call
        rw [← hq] at call
        have HQ := Lib.hid hq
        have CA := Lib.hid call
        have L1 := Lib.hid LD1
        have L2 := Lib.hid LD2
        clear hc0 hc1 hc0' hc1' hsi hsi' hs hs' hbel R1 R2 call LD1 LD2 hx hy hq hnil hnil'
        go_wp2_with fail
        refine tq_class (AfterT wr) (by kernel_rfl) (by kernel_rfl) (Below.refl _ _).drew ?_
        refine tq_move rfl _ rfl ?_
        refine tq_move rfl _ rfl ?_
        refine wpQuiet_step (fun K hK => ?_)
        go_simp
        refine ⟨.pointer (some ⟨b, o + k * 2, none⟩), fun w' _ => rfl, hK _ ?_⟩
        clear hK K
        refine tq_load rfl 68 (.tmp 19) rfl b (o + k * 2) rfl [.slice A1 n1 c1, .int .i64 x] _ L1.out Try.underlying68 rfl Try.infoTermP ?_
        refine tq_move rfl _ rfl ?_
        refine tq_move rfl _ rfl ?_
        refine wpQuiet_step (fun K hK => ?_)
        go_simp
        refine ⟨.pointer (some ⟨b', o' + k * 2, none⟩), fun w' _ => rfl, hK _ ?_⟩
        clear hK K
        refine tq_load rfl 68 (.tmp 23) rfl b' (o' + k * 2) rfl [.slice A2 n2 c2, .int .i64 y] _ L2.out Try.underlying68 rfl Try.infoTermP ?_
        refine wpQuiet_step (fun K hK => ?_)
        go_simp
        refine ⟨.bool q, fun w' hw' => CA.out w' hw', hK _ ?_⟩
        clear hK K
        refine wpQuiet_step (fun K hK => ?_)
        go_simp
        refine ⟨.bool (!q), fun w' _ => rfl, hK _ ?_⟩
        clear hK K
        refine wpQuiet_nil ?_
        intro w5 hw5
        have HB5 := Lib.hid (HB.out.trans (Below.mono hw5 HB.out.size))
        clear hw5 L1 L2 CA
        cases q with
        | true =>
          go_wp2
          go_roundw
          case rel => exact ⟨k + 1, by omega, by go_num, fun j hj => by
            rcases Nat.lt_or_ge j k with h | h
            · exact HA.out j h
            · obtain rfl : j = k := by omega
              exact of_decide_eq_true HQ.out.symm, HB5.out⟩
          case measure => simp [intOf]; omega
        | false =>
          go_wp2
          go_ret
          exact ⟨ret_bool (eqTs_ne (k := k) (of_decide_eq_false HQ.out.symm)).symm, HB5.out⟩
      · have hkn : k = n := by omega
        subst hkn
        go_wp2
        go_ret
        exact ⟨ret_bool (eqTs_all (by have := HL.out; omega) (by rw [HL.out.1]; exact HA.out)).symm, HB.out⟩
  · have hne' : ¬ (n : Int) = (n' : Int) := by omega
    go_enter Try.func34, Try.ntmps34
    go_wp2
    go_ret
    exact ⟨ret_bool (eqTs_len (by have := HL.out; omega)).symm, Below.refl _ _⟩
end Go.Proofs.Ythinbmjcdcmioaa.Prt

/-
  What a list of parts is: both sides answer partsB. Conditions: lengths below 2^40.
-/




namespace Go.Proofs.Ythinbmjcdcmioaa
open Go.RowKit

def partAt (ts : List Tm) (k : Nat) : Prop := isShapeB (tm ts k).1 = true ∧ (tm ts k).2 ≠ 0 ∧ (0 < k → lessL (tm ts (k - 1)).1 (tm ts k).1 = true)
instance (ts : List Tm) (k : Nat) : Decidable (partAt ts k) := by unfold partAt; infer_instance
def partsB (ts : List Tm) : Bool := (List.range ts.length).all fun k => decide (partAt ts k)
theorem partsB_iff (ts : List Tm) : partsB ts = true ↔ ∀ k, k < ts.length → partAt ts k := by simp [partsB]
theorem partsB_yes {ts : List Tm} (h : ∀ k, k < ts.length → partAt ts k) : partsB ts = true := (partsB_iff ts).2 h
theorem partsB_no {ts : List Tm} {k : Nat} (hk : k < ts.length) (h : ¬ partAt ts k) : partsB ts = false := by
  cases hb : partsB ts with
  | false => rfl
  | true => exact absurd ((partsB_iff ts).1 hb k hk) h

set_option maxRecDepth 100000 in
set_option maxHeartbeats 6400000 in
theorem specParts_any (A : Option Addr) (n c : Nat) (ts : List Tm) (w : World) (hs : TS w A n ts) (hn : n ≤ 1099511627776) (hne : ∀ k, k < n → (tm ts k).1.length ≤ 1099511627776) :
    Calls Try.prog 31 #[.slice A n c] w fun e w' => e = .returned (.bool (partsB ts)) ∧ Drawn w w' := by
  have HL := Lib.hid hs.1
  have HNE := Lib.hid hne
  clear hne
  go_enter Try.func31, Try.ntmps31
  go_wp2
  go_loopw [3] (fun iv wr => ∃ k : Nat, k ≤ n ∧ iv = .int .i64 k ∧ Drawn w wr ∧ ∀ j, j < k → partAt ts j)
    (fun iv _ => n - (intOf iv).toNat)
  case atStart => exact ⟨0, Nat.zero_le _, rfl, Drawn.refl _, fun j hj => absurd hj (by omega)⟩
  case round =>
    obtain ⟨k, hk, rfl, hD, hall⟩ := hrel
    have HD := Lib.hid hD
    have HA := Lib.hid hall
    have hts := hs.drawn hD
    clear hD hall hs
    by_cases hlt : k < n
    · have hlI : (k : Int) < (n : Int) := by omega
      have HFAIL : Hid (¬ partAt ts k → partsB ts = false) := Lib.hid (fun h => partsB_no (by rw [HL.out]; exact hlt) h)
      obtain ⟨b, o, A', n', c', rfl, hb, hc0, hc1, hsi, _, _⟩ := hts.at_ hlt
      obtain ⟨x, hx⟩ : ∃ x, x = (tm ts k).2 := ⟨_, rfl⟩
      rw [← hx] at hc1
      have HX := Lib.hid hx
      have hln : n' ≤ 1099511627776 := by have := HNE.out k hlt; have := hsi.1; omega
      have CA1 := fun nd => Calls.quiet_of (specIsShape_any A' n' c' (tm ts k).1 (wr.drewN nd) (hsi.drewN nd) hln)
      cases hsh : isShapeB (tm ts k).1 with
      | false =>
        rw [hsh] at CA1
        have CB1 := Lib.hid CA1
        have HF := Lib.hid (HFAIL.out (fun h => by rw [h.1] at hsh; simp at hsh))
        clear hts hx hsi CA1 hsh
        go_wp2_with fail
        go_quiet ((go_at_call 15; with_reducible exact CB1.out _))
        go_wp2
        go_ret
        exact ⟨ret_bool HF.out.symm, HD.out.drewN _⟩
      | true =>
        rw [hsh] at CA1
        have CB1 := Lib.hid CA1
        have HSH := Lib.hid hsh
        clear hsh CA1
        by_cases h0 : x = 0
        · have HF := Lib.hid (HFAIL.out (fun h => h.2.1 (by rw [← hx]; exact h0)))
          subst h0
          clear hts hx hsi
          go_wp2_with fail
          go_quiet ((go_at_call 15; with_reducible exact CB1.out _))
          go_wp2
          go_ret
          exact ⟨ret_bool HF.out.symm, HD.out.drewN _⟩
        · have hx0 : (x == 0) = false := by simpa using h0
          cases k with
          | zero =>
            have HG : Hid (partAt ts 0) := Lib.hid ⟨HSH.out, by rw [← HX.out]; exact h0, fun h => absurd h (by omega)⟩
            rw [Nat.zero_mul, Nat.add_zero] at hc0
            rw [Nat.zero_mul, Nat.add_zero] at hc1
            clear hts hx hsi
            go_wp2_with fail
            go_quiet ((go_at_call 15; with_reducible exact CB1.out _))
            go_wp2
            go_roundw
            case rel => exact ⟨1, by omega, by go_num, HD.out.drewN _, fun j hj => by
              obtain rfl : j = 0 := by omega
              exact HG.out⟩
            case measure => simp [intOf]; omega
          | succ m =>
            obtain ⟨b3, o3, A3, n3, c3, e3, hb3, hd0, hd1, hsi3, _, _⟩ := hts.at_ (k := m) (by omega)
            obtain ⟨rfl, rfl⟩ : b = b3 ∧ o = o3 := by simpa using e3
            have hln3 : n3 ≤ 1099511627776 := by have := HNE.out m (by omega); have := hsi3.1; omega
            have CA2 := fun nd => Calls.quiet_of (l1Less_any A3 A' n3 c3 n' c' (tm ts m).1 (tm ts (m + 1)).1 (wr.drewN nd) (hsi3.drewN nd) (hsi.drewN nd) hln3 hln)
            have hmw : IntKind.i64.wrap (((m + 1 : Nat) : Int) - 1) = (m : Int) := by rw [IntWalk.i64_in _ (by omega)]; omega
            have hm0 : (0 : Int) < ((m + 1 : Nat) : Int) := by omega
            have hmI : (m : Int) < (n : Int) := by omega
            have hsub : m + 1 - 1 = m := by omega
            cases hq : lessL (tm ts m).1 (tm ts (m + 1)).1 with
            | false =>
              rw [hq] at CA2
              have CB2 := Lib.hid CA2
              have HF := Lib.hid (HFAIL.out (fun h => by have h2 := h.2.2 (by omega); rw [hsub, hq] at h2; simp at h2))
              clear hts hx hsi hsi3 CA2 hq hd1 hsub
              go_wp2_with fail
              go_quiet ((first | (go_at_call 15; with_reducible exact CB1.out _) | (go_at_call 63; with_reducible exact CB2.out _)))
              go_wp2
              go_ret
              exact ⟨ret_bool HF.out.symm, HD.out.drewN _⟩
            | true =>
              rw [hq] at CA2
              have CB2 := Lib.hid CA2
              have HG : Hid (partAt ts (m + 1)) := Lib.hid ⟨HSH.out, by rw [← HX.out]; exact h0, fun _ => by rw [hsub]; exact hq⟩
              clear hts hx hsi hsi3 CA2 hq hd1 hsub
              go_wp2_with fail
              go_quiet ((first | (go_at_call 15; with_reducible exact CB1.out _) | (go_at_call 63; with_reducible exact CB2.out _)))
              go_wp2
              go_roundw
              case rel => exact ⟨m + 1 + 1, by omega, by go_num, HD.out.drewN _, fun j hj => by
                rcases Nat.lt_or_ge j (m + 1) with h | h
                · exact HA.out j h
                · rw [show j = m + 1 by omega]; exact HG.out⟩
              case measure => simp [intOf]; omega
    · have hkn : k = n := by omega
      subst hkn
      have HT := Lib.hid (partsB_yes (ts := ts) (by rw [HL.out]; exact HA.out))
      clear hts
      go_wp2
      go_ret
      exact ⟨ret_bool HT.out.symm, HD.out⟩

set_option maxHeartbeats 1600000 in
theorem compareParts_any (A A2 : Option Addr) (n c n2 c2 : Nat) (xs ys : List Int) (x y : Int) (w : World) (hs : SI w A n xs) (hs2 : SI w A2 n2 ys) (hn : n ≤ 1099511627776) (hn2 : n2 ≤ 1099511627776) :
    Calls Try.prog 65 #[.agg #[.slice A n c, .int .i64 x], .agg #[.slice A2 n2 c2, .int .i64 y]] w fun e w' => e = .returned (.int .i64 (cmpL xs ys)) ∧ Below w.heap.size w w' := by
  have HC := Lib.hid (fun (w1 : World) (hb : Below w.heap.size w w1) => sliceCompare_any A A2 n c n2 c2 xs ys w1 (hs.below hb (Nat.le_refl _)) (hs2.below hb (Nat.le_refl _)) hn hn2)
  clear hs hs2
  go_enter Try.func65, Try.ntmps65
  go_wp2_with (go_at_call 94; refine (HC.out _ (by go_grown)).mono ?_; rintro e w1 ⟨rfl, hd⟩; have HD := Lib.hid hd; clear hd)
  go_ret
  exact ⟨rfl, Below.trans (by go_grown) (HD.out.below _)⟩
end Go.Proofs.Ythinbmjcdcmioaa

/-
  Is a list of terms a polynomial: both sides answer polyB. Conditions: lengths below 2^40.
-/

namespace Go.Proofs.Ythinbmjcdcmioaa
open Go.RowKit

theorem isCoef_yes {x : Int} (h : x ≠ 0 ∧ -1000000 ≤ x ∧ x ≤ 1000000) (w : World) : Calls Try.prog 91 #[.int .i64 x] w fun r w' => r = .returned (.bool true) ∧ w' = w := by
  obtain ⟨h0, h1, h2⟩ := h
  have hb : (x != 0) = true := by simpa using h0
  go_enter Try.func91, Try.ntmps91
  go_wp2
  go_ret
  exact ⟨rfl, rfl⟩
theorem isCoef_no {x : Int} (h : ¬ (x ≠ 0 ∧ -1000000 ≤ x ∧ x ≤ 1000000)) (w : World) : Calls Try.prog 91 #[.int .i64 x] w fun r w' => r = .returned (.bool false) ∧ w' = w := by
  by_cases h0 : x = 0
  · subst h0
    clear h
    go_enter Try.func91, Try.ntmps91
    go_wp2
    go_ret
    exact ⟨rfl, rfl⟩
  · have hb : (x != 0) = true := by simpa using h0
    by_cases h1 : -1000000 ≤ x
    · have h2 : ¬ x ≤ 1000000 := fun h2 => h ⟨h0, h1, h2⟩
      clear h h0
      go_enter Try.func91, Try.ntmps91
      go_wp2
      go_ret
      exact ⟨rfl, rfl⟩
    · clear h h0
      go_enter Try.func91, Try.ntmps91
      go_wp2
      go_ret
      exact ⟨rfl, rfl⟩
end Go.Proofs.Ythinbmjcdcmioaa

/-
  Is a list of terms a polynomial: the program's side answers polyB. Conditions: lengths below 2^40.
-/

namespace Go.Proofs.Ythinbmjcdcmioaa
open Go.RowKit

theorem quiet_loadmid {P : Program} {C : World → Prop} {a : Act} {o : Oper} {K : Act → Prop} (ty : TypeId) (x : Operand) (ho : o.op = .load ty x) (b off : Nat) (hx : a.eval x = .pointer (some ⟨b, off, none⟩)) (cs : List Value) (d : TypeDesc)
    (hb : ∀ w, C w → w.rangeAt b off cs) (hu : P.underlying ty = some d) (hd : d.isRow = true) (hi : (P.info? ty).map (·.size) = some cs.length) (hk : K (a.put o.dst (.agg cs.toArray))) : o.quiet P a C K :=
  ⟨_, fun w hw => by
    unfold Oper.quietAt execOp
    simp only [ho, hx, Instr.loadAt, Instr.sureAddr, Sem.run_bind, Sem.run_pure, Result.andThen_ok, run_loadVar_mid w b off ty cs d (hb w hw) hu hd hi]
    exact ⟨rfl, rfl⟩, hk⟩

end Go.Proofs.Ythinbmjcdcmioaa

/-
  What a list of parts is: the program's side answers partsB. Conditions: lengths below 2^40.
-/


namespace Go.Proofs.Ythinbmjcdcmioaa
open Go.RowKit

theorem quiet_loadcell0 {C : World → Prop} {a : Act} {o : Oper} {K : Act → Prop} (ty : TypeId) (x : Operand) (ho : o.op = .load ty x) (b off : Nat) (hx : a.eval x = .pointer (some ⟨b, off, none⟩)) (v : Value)
    (hb : ∀ w, C w → w.cell? ⟨b, off, none⟩ = some v) (hu : ty = 3) (hk : K (a.put o.dst v)) : o.quiet Try.prog a C K :=
  ⟨_, fun w hw => by
    subst hu
    have hc := hb w hw
    have hl : (loadVar 3 ⟨b, off, none⟩).run Try.prog w = .ok v w := by
      simp [loadVar, isAgg, underlying, Try.underlying3, hc, Result.andThen]
    unfold Oper.quietAt execOp
    simp only [ho, hx, Instr.loadAt, Instr.sureAddr, Sem.run_bind, Sem.run_pure, Result.andThen_ok, hl]
    exact ⟨rfl, rfl⟩, hk⟩

set_option maxRecDepth 100000 in
set_option maxHeartbeats 1600000 in
theorem implParts_any (A : Option Addr) (n c : Nat) (ts : List Tm) (w : World) (hs : TS w A n ts) (hn : n ≤ 1099511627776) (hne : ∀ k, k < n → (tm ts k).1.length ≤ 1099511627776) :
    Calls Try.prog 33 #[.slice A n c] w fun r w' => r = .returned (.bool (partsB ts)) ∧ Below w.heap.size w w' := by
  have HL := Lib.hid hs.1
  have HNE := Lib.hid hne
  clear hne
  go_enter Try.func33, Try.ntmps33
  go_wp2
  go_loopw [7] (fun i wr => ∃ k : Nat, k ≤ n ∧ i = .int .i64 k ∧ (∀ j, j < k → partAt ts j) ∧ Below w.heap.size w wr)
    (fun i _ => n - (intOf i).toNat)
  case atStart => exact ⟨0, Nat.zero_le _, rfl, fun j hj => absurd hj (by omega), Below.refl _ _⟩
  case round =>
    obtain ⟨k, hk, rfl, hall, hbel⟩ := hrel
    have HA := Lib.hid hall
    have HB := Lib.hid hbel
    have hts := hs.below hbel (Nat.le_refl _)
    clear hall hbel hs
    by_cases hlt : k < n
    · have hlI : (k : Int) < (n : Int) := by omega
      obtain ⟨b, o, A', n', c', rfl, hb, hc0, hc1, hsi, hnc, hnil⟩ := hts.at_ hlt
      have NO : Hid (¬ partAt ts k → partsB ts = false) := Lib.hid (fun h => partsB_no (by rw [HL.out]; exact hlt) h)
      obtain ⟨x, hx⟩ : ∃ x, x = (tm ts k).2 := ⟨_, rfl⟩
      rw [← hx] at hc1
      have HX := Lib.hid hx
      have hln : n' ≤ 1099511627776 := by have := HNE.out k hlt; have := hsi.1; omega
      have HT := Lib.hid hts
      have HSI := Lib.hid hsi
      clear hts hsi hx hnil
      go_wp2_with fail
      obtain ⟨w5, hw5⟩ : ∃ w5, w5 = wr.alloc (.cells #[.slice A' n' c', .int .i64 x] 68) := ⟨_, rfl⟩
      have hb5 : Below wr.heap.size wr w5 := by rw [hw5]; exact (Below.refl _ _).alloc (Nat.le_refl _) _
      have hK5 : Blk w5 wr.heap.size 68 #[.slice A' n' c', .int .i64 x] := by rw [hw5]; exact Blk.new _ _ _
      have LG : ∀ w', AfterT w5 w' → w'.rangeAt wr.heap.size 0 [.slice A' n' c', .int .i64 x] := fun w' hw' j v hj => by
        rw [(hK5.below hw' hK5.lt).cell]
        match j, hj with
        | 0, hj => simp at hj; subst hj; rfl
        | 1, hj => simp at hj; subst hj; rfl
      have LC0 : ∀ w', AfterT w5 w' → w'.cell? ⟨wr.heap.size, 0, none⟩ = some (.slice A' n' c') := fun w' hw' => by rw [(hK5.below hw' hK5.lt).cell]; rfl
      have LC1 : ∀ w', AfterT w5 w' → w'.cell? ⟨wr.heap.size, 1, none⟩ = some (.int .i64 x) := fun w' hw' => by rw [(hK5.below hw' hK5.lt).cell]; rfl
      have S5 := HSI.out.below hb5 (Nat.le_refl _)
      have T5 := HT.out.below hb5 (Nat.le_refl _)
      have call1 : ∀ w', AfterT w5 w' → Calls Try.prog 17 #[.slice A' n' c'] w' (fun r w'' => r = .returned (.bool (isShapeB (tm ts k).1)) ∧ AfterT w5 w'') := fun w' hw' =>
        (implIsShape_any A' n' c' (tm ts k).1 w' (S5.below hw' (Nat.le_refl _)) hln).mono fun r w'' ⟨hr, hd⟩ => ⟨hr, Below.trans hw' (hd.below _)⟩
      have HB5 := Lib.hid (HB.out.trans (hb5.mono HB.out.size))
      obtain ⟨G, hG⟩ : ∃ G, G = wr.heap.size := ⟨_, rfl⟩
      rw [← hG] at LG LC0 LC1 ⊢
      rw [← hw5]
      have L1 := Lib.hid LG
      have C0 := Lib.hid LC0
      have C1 := Lib.hid LC1
      clear hw5 hb5 hK5 LG LC0 LC1 hG hc0 hc1
      cases hsh : isShapeB (tm ts k).1 with
      | false =>
        rw [hsh] at call1
        have CA1 := Lib.hid call1
        have HF := Lib.hid (NO.out (fun h => by rw [h.1] at hsh; simp at hsh))
        clear call1 hsh S5 T5
        refine tq_class (AfterT w5) (by kernel_rfl) (by kernel_rfl) (Below.refl _ _).drew ?_
        go_big_quiet_want
        go_big_quiet_op
        first | go_big_quiet_on | (refine ⟨_, fun _ _ => rfl, ?_⟩; go_big_quiet_on)
        go_big_quiet_want
        refine quiet_loadcell1 22 (.tmp 12) rfl G 0 rfl _ C0.out rfl ?_
        go_big_quiet_on
        go_simp
        go_big_quiet_want
        go_big_quiet_op
        refine ⟨.bool false, fun w' hw' => CA1.out w' hw', ?_⟩
        go_big_quiet_on
        go_big_quiet_want
        go_big_quiet_op
        first | go_big_quiet_on | (refine ⟨_, fun _ _ => rfl, ?_⟩; go_big_quiet_on)
        go_big_quiet_want
        go_big_quiet_op
        first | go_big_quiet_on | (refine ⟨_, fun _ _ => rfl, ?_⟩; go_big_quiet_on)
        repeat go_big_quiet_skip
        go_big_quiet_want
        go_big_quiet_op
        first | go_big_quiet_on | (refine ⟨_, fun _ _ => rfl, ?_⟩; go_big_quiet_on)
        go_big_quiet_want
        go_big_quiet_op
        first | go_big_quiet_on | (refine ⟨_, fun _ _ => rfl, ?_⟩; go_big_quiet_on)
        repeat go_big_quiet_skip
        go_big_quiet_want
        go_big_quiet_op
        first | go_big_quiet_on | (refine ⟨_, fun _ _ => rfl, ?_⟩; go_big_quiet_on)
        refine wpQuiet_nil ?_
        intro w6 hw6
        have HB6 := Lib.hid (HB5.out.trans (Below.mono hw6 HB5.out.size))
        clear hw6 L1 CA1 C0 C1
        go_wp2
        go_ret
        exact ⟨ret_bool HF.out.symm, HB6.out⟩
      | true =>
        rw [hsh] at call1
        have CA1 := Lib.hid call1
        have HSH := Lib.hid hsh
        clear call1 hsh
        by_cases h0 : x = 0
        · have HF := Lib.hid (NO.out (fun h => h.2.1 (by rw [← HX.out]; exact h0)))
          subst h0
          clear S5 T5
          refine tq_class (AfterT w5) (by kernel_rfl) (by kernel_rfl) (Below.refl _ _).drew ?_
          go_big_quiet_want
          go_big_quiet_op
          first | go_big_quiet_on | (refine ⟨_, fun _ _ => rfl, ?_⟩; go_big_quiet_on)
          go_big_quiet_want
          refine quiet_loadcell1 22 (.tmp 12) rfl G 0 rfl _ C0.out rfl ?_
          go_big_quiet_on
          go_simp
          go_big_quiet_want
          go_big_quiet_op
          refine ⟨.bool true, fun w' hw' => CA1.out w' hw', ?_⟩
          go_big_quiet_on
          go_big_quiet_want
          go_big_quiet_op
          first | go_big_quiet_on | (refine ⟨_, fun _ _ => rfl, ?_⟩; go_big_quiet_on)
          go_big_quiet_want
          go_big_quiet_op
          first | go_big_quiet_on | (refine ⟨_, fun _ _ => rfl, ?_⟩; go_big_quiet_on)
          go_big_quiet_want
          go_big_quiet_op
          first | go_big_quiet_on | (refine ⟨_, fun _ _ => rfl, ?_⟩; go_big_quiet_on)
          go_big_quiet_want
          refine quiet_loadcell0 3 (.tmp 17) rfl G 1 rfl _ C1.out rfl ?_
          go_big_quiet_on
          go_simp
          go_big_quiet_want
          go_big_quiet_op
          first | go_big_quiet_on | (refine ⟨_, fun _ _ => rfl, ?_⟩; go_big_quiet_on)
          go_big_quiet_want
          go_big_quiet_op
          first | go_big_quiet_on | (refine ⟨_, fun _ _ => rfl, ?_⟩; go_big_quiet_on)
          go_big_quiet_want
          go_big_quiet_op
          first | go_big_quiet_on | (refine ⟨_, fun _ _ => rfl, ?_⟩; go_big_quiet_on)
          repeat go_big_quiet_skip
          go_big_quiet_want
          go_big_quiet_op
          first | go_big_quiet_on | (refine ⟨_, fun _ _ => rfl, ?_⟩; go_big_quiet_on)
          refine wpQuiet_nil ?_
          intro w6 hw6
          have HB6 := Lib.hid (HB5.out.trans (Below.mono hw6 HB5.out.size))
          clear hw6 L1 CA1 C0 C1
          go_wp2
          go_ret
          exact ⟨ret_bool HF.out.symm, HB6.out⟩
        · have hx0 : (x == 0) = false := by simpa using h0
          cases k with
          | zero =>
            have HG : Hid (partAt ts 0) := Lib.hid ⟨HSH.out, by rw [← HX.out]; exact h0, fun h => absurd h (by omega)⟩
            clear S5 T5
            refine tq_class (AfterT w5) (by kernel_rfl) (by kernel_rfl) (Below.refl _ _).drew ?_
            go_big_quiet_want
            go_big_quiet_op
            first | go_big_quiet_on | (refine ⟨_, fun _ _ => rfl, ?_⟩; go_big_quiet_on)
            go_big_quiet_want
            refine quiet_loadcell1 22 (.tmp 12) rfl G 0 rfl _ C0.out rfl ?_
            go_big_quiet_on
            go_simp
            go_big_quiet_want
            go_big_quiet_op
            refine ⟨.bool true, fun w' hw' => CA1.out w' hw', ?_⟩
            go_big_quiet_on
            go_big_quiet_want
            go_big_quiet_op
            first | go_big_quiet_on | (refine ⟨_, fun _ _ => rfl, ?_⟩; go_big_quiet_on)
            go_big_quiet_want
            go_big_quiet_op
            first | go_big_quiet_on | (refine ⟨_, fun _ _ => rfl, ?_⟩; go_big_quiet_on)
            go_big_quiet_want
            go_big_quiet_op
            first | go_big_quiet_on | (refine ⟨_, fun _ _ => rfl, ?_⟩; go_big_quiet_on)
            go_big_quiet_want
            refine quiet_loadcell0 3 (.tmp 17) rfl G 1 rfl _ C1.out rfl ?_
            go_big_quiet_on
            go_simp
            go_big_quiet_want
            go_big_quiet_op
            first | go_big_quiet_on | (refine ⟨_, fun _ _ => rfl, ?_⟩; go_big_quiet_on)
            go_big_quiet_want
            go_big_quiet_op
            first | go_big_quiet_on | (refine ⟨_, fun _ _ => rfl, ?_⟩; go_big_quiet_on)
            go_big_quiet_want
            go_big_quiet_op
            first | go_big_quiet_on | (refine ⟨_, fun _ _ => rfl, ?_⟩; go_big_quiet_on)
            go_big_quiet_want
            go_big_quiet_op
            first | go_big_quiet_on | (refine ⟨_, fun _ _ => rfl, ?_⟩; go_big_quiet_on)
            go_big_quiet_want
            go_big_quiet_op
            first | go_big_quiet_on | (refine ⟨_, fun _ _ => rfl, ?_⟩; go_big_quiet_on)
            go_big_quiet_want
            go_big_quiet_op
            first | go_big_quiet_on | (refine ⟨_, fun _ _ => rfl, ?_⟩; go_big_quiet_on)
            repeat go_big_quiet_skip
            go_big_quiet_want
            go_big_quiet_op
            first | go_big_quiet_on | (refine ⟨_, fun _ _ => rfl, ?_⟩; go_big_quiet_on)
            go_big_quiet_want
            go_big_quiet_op
            first | go_big_quiet_on | (refine ⟨_, fun _ _ => rfl, ?_⟩; go_big_quiet_on)
            refine wpQuiet_nil ?_
            intro w6 hw6
            have HB6 := Lib.hid (HB5.out.trans (Below.mono hw6 HB5.out.size))
            clear hw6 L1 CA1 C0 C1
            go_wp2
            go_roundw
            case rel => exact ⟨1, by omega, by go_num, fun j hj => by
              obtain rfl : j = 0 := by omega
              exact HG.out, HB6.out⟩
            case measure => simp [intOf]; omega
          | succ m =>
            obtain ⟨b3, o3, A3, n3, c3, e3, hb3, hd0, hd1, hsi3, _, _⟩ := T5.at_ (k := m) (by omega)
            obtain ⟨rfl, rfl⟩ : b = b3 ∧ o = o3 := by simpa using e3
            have hln3 : n3 ≤ 1099511627776 := by have := HNE.out m (by omega); have := hsi3.1; omega
            have R3 := TS.range hd0 hd1
            have LP : ∀ w', AfterT w5 w' → w'.rangeAt b (o + m * 2) [.slice A3 n3 c3, .int .i64 (tm ts m).2] := fun w' hw' j v hj => by
              rw [Below.cell hw' (p := ⟨b, o + m * 2 + j, none⟩) hb3]; exact R3 j v hj
            have call2 : ∀ w', AfterT w5 w' → Calls Try.prog 65 #[.agg #[.slice A3 n3 c3, .int .i64 (tm ts m).2], .agg #[.slice A' n' c', .int .i64 x]] w' (fun r w'' => r = .returned (.int .i64 (cmpL (tm ts m).1 (tm ts (m + 1)).1)) ∧ AfterT w5 w'') := fun w' hw' =>
              (compareParts_any A3 A' n3 c3 n' c' (tm ts m).1 (tm ts (m + 1)).1 (tm ts m).2 x w' (hsi3.below hw' (Nat.le_refl _)) (S5.below hw' (Nat.le_refl _)) hln3 hln).mono fun r w'' ⟨hr, hb⟩ => ⟨hr, Below.trans hw' (hb.mono hw'.size)⟩
            obtain ⟨y, hy⟩ : ∃ y, y = (tm ts m).2 := ⟨_, rfl⟩
            obtain ⟨q, hq⟩ : ∃ q, q = cmpL (tm ts m).1 (tm ts (m + 1)).1 := ⟨_, rfl⟩
            rw [← hy] at LP call2
            rw [← hq] at call2
            have HQ := Lib.hid hq
            have LP1 := Lib.hid LP
            have CA2 := Lib.hid call2
            have hmw : IntKind.i64.wrap (((m + 1 : Nat) : Int) - 1) = (m : Int) := by rw [IntWalk.i64_in _ (by omega)]; omega
            have hm0 : (0 : Int) < ((m + 1 : Nat) : Int) := by omega
            have hmI : (m : Int) < (n : Int) := by omega
            clear S5 T5 hsi3 hd0 hd1 R3 LP call2 hy hq
            refine tq_class (AfterT w5) (by kernel_rfl) (by kernel_rfl) (Below.refl _ _).drew ?_
            go_big_quiet_want
            go_big_quiet_op
            first | go_big_quiet_on | (refine ⟨_, fun _ _ => rfl, ?_⟩; go_big_quiet_on)
            go_big_quiet_want
            refine quiet_loadcell1 22 (.tmp 12) rfl G 0 rfl _ C0.out rfl ?_
            go_big_quiet_on
            go_simp
            go_big_quiet_want
            go_big_quiet_op
            refine ⟨.bool true, fun w' hw' => CA1.out w' hw', ?_⟩
            go_big_quiet_on
            go_big_quiet_want
            go_big_quiet_op
            first | go_big_quiet_on | (refine ⟨_, fun _ _ => rfl, ?_⟩; go_big_quiet_on)
            go_big_quiet_want
            go_big_quiet_op
            first | go_big_quiet_on | (refine ⟨_, fun _ _ => rfl, ?_⟩; go_big_quiet_on)
            go_big_quiet_want
            go_big_quiet_op
            first | go_big_quiet_on | (refine ⟨_, fun _ _ => rfl, ?_⟩; go_big_quiet_on)
            go_big_quiet_want
            refine quiet_loadcell0 3 (.tmp 17) rfl G 1 rfl _ C1.out rfl ?_
            go_big_quiet_on
            go_simp
            go_big_quiet_want
            go_big_quiet_op
            first | go_big_quiet_on | (refine ⟨_, fun _ _ => rfl, ?_⟩; go_big_quiet_on)
            go_big_quiet_want
            go_big_quiet_op
            first | go_big_quiet_on | (refine ⟨_, fun _ _ => rfl, ?_⟩; go_big_quiet_on)
            go_big_quiet_want
            go_big_quiet_op
            first | go_big_quiet_on | (refine ⟨_, fun _ _ => rfl, ?_⟩; go_big_quiet_on)
            go_big_quiet_want
            go_big_quiet_op
            first | go_big_quiet_on | (refine ⟨_, fun _ _ => rfl, ?_⟩; go_big_quiet_on)
            go_big_quiet_want
            go_big_quiet_op
            first | go_big_quiet_on | (refine ⟨_, fun _ _ => rfl, ?_⟩; go_big_quiet_on)
            go_big_quiet_want
            go_big_quiet_op
            first | go_big_quiet_on | (refine ⟨_, fun _ _ => rfl, ?_⟩; go_big_quiet_on)
            go_big_quiet_want
            go_big_quiet_op
            first | go_big_quiet_on | (refine ⟨_, fun _ _ => rfl, ?_⟩; go_big_quiet_on)
            go_big_quiet_want
            go_big_quiet_op
            first | go_big_quiet_on | (refine ⟨_, fun _ _ => rfl, ?_⟩; go_big_quiet_on)
            go_big_quiet_want
            go_big_quiet_op
            first | go_big_quiet_on | (refine ⟨_, fun _ _ => rfl, ?_⟩; go_big_quiet_on)
            go_big_quiet_want
            go_big_quiet_op
            first | go_big_quiet_on | (refine ⟨_, fun _ _ => rfl, ?_⟩; go_big_quiet_on)
            go_big_quiet_want
            refine quiet_loadmid 68 (.tmp 28) rfl b (o + m * 2) rfl [.slice A3 n3 c3, .int .i64 y] _ LP1.out Try.underlying68 rfl Prt.Try.infoTermP ?_
            go_big_quiet_on
            go_simp
            go_big_quiet_want
            refine quiet_loadmid 68 (.tmp 4) rfl G (0) rfl [.slice A' n' c', .int .i64 x] _ L1.out Try.underlying68 rfl Prt.Try.infoTermP ?_
            go_big_quiet_on
            go_simp
            go_big_quiet_want
            go_big_quiet_op
            refine ⟨.int .i64 q, fun w' hw' => CA2.out w' hw', ?_⟩
            go_big_quiet_on
            go_big_quiet_want
            go_big_quiet_op
            first | go_big_quiet_on | (refine ⟨_, fun _ _ => rfl, ?_⟩; go_big_quiet_on)
            go_big_quiet_want
            go_big_quiet_op
            first | go_big_quiet_on | (refine ⟨_, fun _ _ => rfl, ?_⟩; go_big_quiet_on)
            go_big_quiet_want
            go_big_quiet_op
            first | go_big_quiet_on | (refine ⟨_, fun _ _ => rfl, ?_⟩; go_big_quiet_on)
            refine wpQuiet_nil ?_
            intro w6 hw6
            have HB6 := Lib.hid (HB5.out.trans (Below.mono hw6 HB5.out.size))
            clear hw6 L1 CA1 LP1 CA2 C0 C1
            by_cases hq0 : 0 ≤ q
            · have HF := Lib.hid (NO.out (fun h => by have h2 := h.2.2 (by omega); rw [show m + 1 - 1 = m by omega, lessL_no (by rw [← HQ.out]; exact hq0)] at h2; simp at h2))
              go_wp2
              go_ret
              exact ⟨ret_bool HF.out.symm, HB6.out⟩
            · have HG : Hid (partAt ts (m + 1)) := Lib.hid ⟨HSH.out, by rw [← HX.out]; exact h0, fun _ => by rw [show m + 1 - 1 = m by omega]; have := HQ.out; unfold lessL; simp only [decide_eq_true_eq]; omega⟩
              go_wp2
              go_roundw
              case rel => exact ⟨m + 1 + 1, by omega, by go_num, fun j hj => by
                rcases Nat.lt_or_ge j (m + 1) with h | h
                · exact HA.out j h
                · rw [show j = m + 1 by omega]; exact HG.out, HB6.out⟩
              case measure => simp [intOf]; omega
    · have hkn : k = n := by omega
      subst hkn
      have HT := Lib.hid (partsB_yes (ts := ts) (by rw [HL.out]; exact HA.out))
      clear hts
      go_wp2
      go_ret
      exact ⟨ret_bool HT.out.symm, HB.out⟩
end Go.Proofs.Ythinbmjcdcmioaa

/-
  Opening a slice of integers that came in; closed facts of this dump. No conditions.
-/




namespace Go.Proofs.Ythinbmjcdcmioaa
open Go.ChangeShapes Go.WideShapes Go.ChangeAt Go.RowKit

theorem own : ownKnob Try.prog.godebug = none := by kernel_rfl
theorem laidOut : laidOutB Try.prog = true := by kernel_rfl

/-- What an opened slice of integers gives: it reads as its numbers. -/
theorem SI.of_cells {w : World} {a : Addr} {n : Nat} {zs : List Int} (hl : n ≤ zs.length) (hc : ∀ i, i < zs.length → w.cell? (a.add i) = some (.int .i64 (zs.getD i 0))) : SI w (some a) n (zs.take n) := by
  refine ⟨by simp; omega, fun hn => ?_⟩
  obtain ⟨b, o, s⟩ := a
  have h0 := hc 0 (by omega)
  have hs : s = none := by simpa [Addr.add] using World.cell?_spot h0
  subst hs
  refine ⟨b, o, rfl, block_lt_of_cell (a := ⟨b, o, none⟩) (by simpa [Addr.add] using h0), fun k hk => ?_⟩
  rw [nth_take hk, ← add_pt]
  exact hc k (by omega)

/-- Every number fits an int. -/
def Fits (xs : List Int) : Prop := ∀ x ∈ xs, -9223372036854775808 ≤ x ∧ x ≤ 9223372036854775807
theorem SI.of_trod {H : Type} {enc : TypeId × Value → H} {W : World} {q : Nat} {f : Nat → Bool} {a0 : Option Addr} {len0 cap0 : Nat} {d : DataW H} {p : List MemPlace}
    (h0 : DataW.Trod enc Try.prog W q f true 22 (.slice a0 len0 cap0) d p) : ∃ xs, SI W a0 len0 xs ∧ Fits xs := by
  obtain ⟨fuel, hf⟩ := h0
  rcases open_ints Try.underlying22 Try.underlying3 (by kernel_rfl) hf with ⟨hcs, _⟩ | ⟨x, l, c, zs, hcs, _, hl, hm, hz, _, hcell, hwz⟩
  · simp [Value.cells] at hcs
    obtain ⟨rfl, rfl, rfl⟩ := hcs
    exact ⟨[], SI.nil _ _, fun x hx => by cases hx⟩
  · simp [Value.cells] at hcs
    obtain ⟨rfl, rfl, rfl⟩ := hcs
    exact ⟨_, SI.of_cells (by rw [hz]; split <;> omega) hcell, fun n hn => bounds_i64 (hwz n (List.mem_of_mem_take hn))⟩
end Go.Proofs.Ythinbmjcdcmioaa

/-
  Opening a slice of terms that came in. No conditions.
-/



namespace Go.Proofs.Ythinbmjcdcmioaa
open Go.ChangeShapes Go.WideShapes Go.ChangeAt Go.RowKit

end Go.Proofs.Ythinbmjcdcmioaa

/-
  TermFrame, for values of type Part instead of terms (made by wip/gen/gen_cls.py). Conditions: lengths below 2^40.
-/




namespace Go.Proofs.Ythinbmjcdcmioaa.Prt
open Go.RowKit
open Go.ChangeShapes Go.WideShapes Go.ChangeAt Go.RowKit

theorem TS.of_trodP {H : Type} {enc : TypeId × Value → H} {W : World} {q : Nat} {f : Nat → Bool} {a0 : Option Addr} {len0 cap0 : Nat} {d : DataW H} {p : List MemPlace}
    (h0 : DataW.Trod enc Try.prog W q f true 32 (.slice a0 len0 cap0) d p) : ∃ ts, TS W a0 len0 ts ∧ len0 ≤ 9223372036854775807 ∧ (∀ k, k < len0 → (tm ts k).1.length ≤ 9223372036854775807) := by
  obtain ⟨fuel, hf⟩ := h0
  rcases Go.Deep.open_slice_pairs Try.underlying32 Try.underlying67 (by kernel_rfl) rfl rfl (by kernel_rfl) (by kernel_rfl) hf with ⟨hcs, _⟩ | ⟨a, len, cap, m, n, V0, V1, D0, D1, P0, P1, hcs, hb, hl, hm, hmm, _, hx⟩
  · simp [Value.cells] at hcs
    obtain ⟨rfl, rfl, rfl⟩ := hcs
    exact ⟨[], TS.nil _ _, by omega, fun k hk => absurd hk (by omega)⟩
  · simp [Value.cells] at hcs
    obtain ⟨rfl, rfl, rfl⟩ := hcs
    have hlm : len0 ≤ m := by rw [hmm]; split <;> omega
    have each : ∀ i, i < len0 → ∃ t : Tm, ∃ A' n' c', V0 i = .slice A' n' c' ∧ V1 i = .int .i64 t.2 ∧ SI W A' n' t.1 ∧ n' ≤ c' ∧ (A' = none → n' = 0 ∧ c' = 0) ∧ n' ≤ 9223372036854775807 := by
      intro i hi
      obtain ⟨h1, h2, h3, h4⟩ := hx i (by omega)
      obtain ⟨z, hz, _, _⟩ := DataW.trod_int Try.underlying3 h4
      rcases open_ints Try.underlying22 Try.underlying3 (by kernel_rfl) h3 with ⟨hcs, _⟩ | ⟨x, l, c, zs, hcs, _, hl, hm, hzs, _, hcell, _⟩
      · exact ⟨([], z), none, 0, 0, by simpa using hcs, by simpa using hz, SI.nil _ _, Nat.le_refl _, (fun _ => ⟨rfl, rfl⟩), by omega⟩
      · exact ⟨(zs.take l, z), some x, l, c, by simpa using hcs, by simpa using hz, SI.of_cells (by rw [hzs]; split <;> omega) hcell, hl, (fun h => by cases h), by unfold maxLen at hm; omega⟩
    obtain ⟨T, hT⟩ := Go.Deep.choose_lt each
    refine ⟨(List.range len0).map T, ⟨by simp, fun hn => ?_⟩, by unfold maxLen at hm; omega, fun k hk => ?_⟩
    · obtain ⟨b, o, s⟩ := a
      obtain ⟨h1, _⟩ := hx 0 (by omega)
      have hs : s = none := by simpa [Addr.add] using World.cell?_spot h1
      subst hs
      refine ⟨b, o, rfl, block_lt_of_cell (a := ⟨b, o, none⟩) (by simpa [Addr.add] using h1), fun k hk => ?_⟩
      obtain ⟨A', n', c', e0, e1, hsi, hnc, hnil, _⟩ := hT k hk
      obtain ⟨h1, h2, _, _⟩ := hx k (by omega)
      rw [add_pt] at h1 h2
      have et : tm ((List.range len0).map T) k = T k := by simp [tm, List.getD, hk]
      rw [et]
      exact ⟨A', n', c', by rw [h1, e0], by rw [← e1, ← h2]; rfl, hsi, hnc, hnil⟩
    · obtain ⟨A', n', c', _, _, hsi, _, _, hle⟩ := hT k hk
      have et : tm ((List.range len0).map T) k = T k := by simp [tm, List.getD, hk]
      rw [et, hsi.1]
      exact hle
end Go.Proofs.Ythinbmjcdcmioaa.Prt
