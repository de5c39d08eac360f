/-
  Texts Words to LsFrame, merged. Conditions: as each says.
-/
import Derived.Test.YthinbmjcdcmioaaRows
import Derived.WalkKit
import Derived.WalkSpells
import Derived.WalkLawsBesides
import Derived.Deep.QuietTactic
import Derived.BigQuiet
import Derived.Handy
import Derived.Lib.Hide
import Derived.Deep.AppendLies
import Derived.Laws.OwnMore
import Derived.Maps.AppendAt
import Derived.Deep.MidRow
import Derived.Laws.CopyOwn
import Derived.RegionTactic
import Derived.BigRegion
import Derived.Deep.Cut
import Derived.ProofKit
import Derived.OpenShut
import Derived.ChangeOld
import Derived.Deep.Matrix
/-
  Words for memory: a slice of integers that reads as a list; plain lemmas. No conditions.
-/










namespace Go.Proofs.Ythinbmjcdcmioaa
open Go.RowKit

theorem add_pt (b o k : Nat) : (Addr.mk b o none).add k = ⟨b, o + k, none⟩ := Addr.add_lit b o k

/-- The k-th number of a list (not unfolded by the walk). -/
def nth (xs : List Int) (k : Nat) : Int := xs.getD k 0
theorem nth_get {xs : List Int} {k : Nat} (h : k < xs.length) : nth xs k = xs[k] := by simp [nth, List.getD, h]
theorem nth_get? {xs : List Int} {k : Nat} (h : k < xs.length) : xs[k]? = some (nth xs k) := by simp [nth, List.getD, h]
theorem take_nth {xs : List Int} {k : Nat} (h : k < xs.length) : xs.take (k + 1) = xs.take k ++ [nth xs k] := by
  rw [List.take_succ_eq_append_getElem h, nth_get h]

/-- The slice (A, n) reads as the integers xs. -/
def SI (w : World) (A : Option Addr) (n : Nat) (xs : List Int) : Prop :=
  xs.length = n ∧ (0 < n → ∃ b o, A = some ⟨b, o, none⟩ ∧ b < w.heap.size ∧ ∀ k, k < n → w.cell? ⟨b, o + k, none⟩ = some (.int .i64 (nth xs k)))

section
variable {w w' : World} {A : Option Addr} {n : Nat} {xs : List Int}
theorem SI.nil (w : World) (A : Option Addr) : SI w A 0 [] := ⟨rfl, fun h => absurd h (by omega)⟩
theorem SI.at_ (h : SI w A n xs) (hn : 0 < n) : ∃ b o, A = some ⟨b, o, none⟩ ∧ b < w.heap.size ∧ ∀ k, k < n → w.cell? ⟨b, o + k, none⟩ = some (.int .i64 (nth xs k)) := h.2 hn
theorem SI.below {B : Nat} (h : SI w A n xs) (hb : Below B w w') (hB : w.heap.size ≤ B) : SI w' A n xs :=
  ⟨h.1, fun hn => by
    obtain ⟨b, o, e, hl, hc⟩ := h.2 hn
    have hs := hb.size
    exact ⟨b, o, e, by omega, fun k hk => (hb.cell (p := ⟨b, o + k, none⟩) (by show b < B; omega)).trans (hc k hk)⟩⟩
theorem SI.drewN (h : SI w A n xs) (k : Nat) : SI (w.drewN k) A n xs := h
theorem SI.drew (h : SI w A n xs) : SI w.drew A n xs := h
theorem SI.alloc (h : SI w A n xs) (o : Obj) : SI (w.alloc o) A n xs := h.below ((Below.refl w.heap.size w).alloc (Nat.le_refl _) o) (Nat.le_refl _)
theorem nth_take {k j : Nat} (hj : j < k) : nth (xs.take k) j = nth xs j := by simp [nth, List.getD, hj]
theorem SI.take {k : Nat} (h : SI w A n xs) (hk : k ≤ n) : SI w A k (xs.take k) := by
  refine ⟨by rw [List.length_take, h.1]; omega, fun h0 => ?_⟩
  obtain ⟨b, o, e, hb, hc⟩ := h.2 (by omega)
  exact ⟨b, o, e, hb, fun j hj => by rw [nth_take hj]; exact hc j (by omega)⟩
theorem SI.of_own {base : Nat} {c : Nat} (h : w.ownsRow base 3 1 (.slice A n c) n (xs.map (Value.int .i64))) : SI w A n xs := by
  have h1 := h.1
  simp at h1
  refine ⟨h1, fun hn => ?_⟩
  obtain ⟨g, cap, hv, _, hlt⟩ := h.form hn
  have hA : A = some ⟨g, 0, none⟩ := by injection hv
  subst hA
  refine ⟨g, 0, rfl, hlt, fun k hk => ?_⟩
  have := h.cells (g := g) rfl k (.int .i64 (nth xs k)) (by rw [List.getElem?_map, nth_get? (show k < xs.length by omega)]; rfl)
  rw [add_pt] at this
  exact this
end

/-- w' is w but for draws. -/
def Drawn (w w' : World) : Prop := ∃ m, w' = w.drewN m
theorem Drawn.refl (w : World) : Drawn w w := ⟨0, rfl⟩
theorem Drawn.drewN {w w' : World} (h : Drawn w w') (n : Nat) : Drawn w (w'.drewN n) := by
  obtain ⟨m, rfl⟩ := h; exact ⟨m + n, by rw [World.drewN_drewN]⟩
theorem Drawn.trans {w w' w'' : World} (h : Drawn w w') (h' : Drawn w' w'') : Drawn w w'' := by
  obtain ⟨m, rfl⟩ := h'; exact h.drewN m
theorem Drawn.heap {w w' : World} (h : Drawn w w') : w'.heap = w.heap := by obtain ⟨m, rfl⟩ := h; rfl
theorem Drawn.below {w w' : World} (h : Drawn w w') (B : Nat) : Below B w w' := by obtain ⟨m, rfl⟩ := h; exact ⟨rfl, rfl, rfl, Nat.le_refl _, fun _ _ => rfl⟩
theorem Drawn.si {w w' : World} (h : Drawn w w') {A : Option Addr} {n : Nat} {xs : List Int} (hs : SI w A n xs) : SI w' A n xs := by obtain ⟨m, rfl⟩ := h; exact hs
/-- Block g is just the cells cs of element type t, none frozen. -/
def Blk (w : World) (g : Nat) (t : TypeId) (cs : Array Value) : Prop := w.heap[g]? = some (.cells cs t (0, 0))
section
variable {w w' : World} {g : Nat} {t : TypeId} {cs : Array Value}
theorem Blk.lt (h : Blk w g t cs) : g < w.heap.size := by
  rcases Nat.lt_or_ge g w.heap.size with hlt | hge
  · exact hlt
  · unfold Blk at h; rw [Array.getElem?_eq_none hge] at h; cases h
theorem Blk.cell (h : Blk w g t cs) (i : Nat) : w.cell? ⟨g, i, none⟩ = cs[i]? := cell_of_row w g i cs t (0, 0) h
theorem Blk.frozen (h : Blk w g t cs) (i : Nat) : w.frozen? ⟨g, i, none⟩ = false := by
  unfold Blk at h
  simp [World.frozen?, h]
theorem Blk.new (w : World) (t : TypeId) (cs : Array Value) : Blk (w.alloc (.cells cs t)) w.heap.size t cs := heap_alloc_new w _
theorem Blk.drawn (h : Blk w g t cs) (hd : Drawn w w') : Blk w' g t cs := by obtain ⟨m, rfl⟩ := hd; exact h
theorem Blk.drewN (h : Blk w g t cs) (n : Nat) : Blk (w.drewN n) g t cs := h
theorem Blk.alloc (h : Blk w g t cs) (o : Obj) : Blk (w.alloc o) g t cs := (Below.heap_alloc w o g h.lt).trans h
theorem Blk.set_ (h : Blk w g t cs) (i : Nat) (u : Value) : Blk (w.setCell ⟨g, i, none⟩ u) g t (cs.setIfInBounds i u) := by
  unfold Blk at h ⊢
  simp [World.setCell, Array.getElem?_modify, h]
theorem Blk.far (h : Blk w g t cs) {p : Addr} (hp : g ≠ p.block) (u : Value) : Blk (w.setCell p u) g t cs := (Below.heap_setCell w p u g hp).trans h
theorem Blk.below {B : Nat} (h : Blk w g t cs) (hb : Below B w w') (hg : g < B) : Blk w' g t cs := (hb.block g hg).trans h
theorem Blk.row (h : Blk w g t cs) (cs' : Array Value) : Blk (w.setRow g cs') g t cs' := setRow_heap w g cs cs' t (0, 0) h
theorem Blk.row_far {g' : Nat} (h : Blk w g t cs) (hne : g ≠ g') (cs' : Array Value) : Blk (w.setRow g' cs') g t cs := (setRow_other w g' g cs' hne).trans h
theorem Blk.grown {row : Option Nat} (h : Blk w g t cs) (hb : w.grownBy w' row) (hg : some g ≠ row) : Blk w' g t cs := (hb.block g h.lt hg).trans h
end
theorem grownBy_setRow (w : World) (g : Nat) (cs : Array Value) : w.grownBy (w.setRow g cs) (some g) := ⟨rfl, rfl, rfl, by simp, fun k _ hk => setRow_other w g k cs (fun e => hk (by rw [e]))⟩

/-- A whole array stored into a block that is known: the world behind it is a variable. -/
theorem wpList_store_blk {P : Program} {ops : Array Oper} {rest : List Oper} {o : Oper} {a : Act} {w : World} {Q : Exit → Act → World → Prop} (hgd : o.guard = none) (ty : TypeId) (x y : Operand) (ho : o.op = .store ty x y)
    (g : Nat) (cs : Array Value) (hx : a.eval x = .pointer (some ⟨g, 0, none⟩)) (hy : a.eval y = .agg cs) (t : TypeId) (old : Array Value) (hg : Blk w g t old)
    (hi : (P.info? ty).map (·.size) = some cs.size) (hsz : old.size = cs.size) (h1 : cs.all (·.oneCell') = true)
    (hK : ∀ w', Blk w' g t cs → w.grownBy w' (some g) → wpList P ops Q rest (a.put o.dst undef) w') : wpList P ops Q (o :: rest) a w := by
  refine wpList_plain hgd fun K hK' => ?_
  unfold Oper.wp execOp
  simp only [ho, hx, hy, Instr.storeAt, Instr.sureAddr, Sem.run_bind, Sem.run_pure, Result.andThen_ok, run_storeVar_row w g t ty old cs hg hi hsz h1]
  exact hK' _ _ (hK _ (hg.row cs) (grownBy_setRow w g cs))
/-- A whole array read out of a block that is known. -/
theorem wpList_load_blk {P : Program} {ops : Array Oper} {rest : List Oper} {o : Oper} {a : Act} {w : World} {Q : Exit → Act → World → Prop} (hgd : o.guard = none) (ty : TypeId) (x : Operand) (ho : o.op = .load ty x)
    (g : Nat) (hx : a.eval x = .pointer (some ⟨g, 0, none⟩)) (t : TypeId) (cs : Array Value) (n : Nat) (e : TypeId) (hg : Blk w g t cs)
    (hu : P.underlying ty = some (.array n e)) (hi : (P.info? ty).map (·.size) = some cs.size)
    (h : wpList P ops Q rest (a.put o.dst (.agg cs)) w) : wpList P ops Q (o :: rest) a w :=
  wpList_load_row hgd ty x ho g hx t cs (0, 0) _ hg hu rfl hi h
/-- Two results, the first an array in a block that is known. -/
theorem results_blk_tmp {P : Program} {fn : Func} {p q : Tmp} {ty : TypeId} (h : fn.results = #[.cell p ty, .tmp q]) (tmps : Array Value) (w : World) (g : Nat) (t : TypeId) (cs : Array Value) (n : Nat) (e : TypeId)
    (hp : tmps.getD p undef = .pointer (some ⟨g, 0, none⟩)) (hg : Blk w g t cs) (hu : P.underlying ty = some (.array n e)) (hi : (P.info? ty).map (·.size) = some cs.size) :
    (results fn tmps).run P w = .ok (.tuple #[.agg cs, tmps.getD q undef]) w := by
  have hp' : tmps[p]?.getD undef = .pointer (some ⟨g, 0, none⟩) := by simpa using hp
  simp [results, h, hp', asAddr, run_loadVar_row w g t ty cs (0, 0) _ hg hu rfl hi]
theorem results_blk {P : Program} {fn : Func} {p : Tmp} {ty : TypeId} (h : fn.results = #[.cell p ty]) (tmps : Array Value) (w : World) (g : Nat) (t : TypeId) (cs : Array Value) (n : Nat) (e : TypeId)
    (hp : tmps.getD p undef = .pointer (some ⟨g, 0, none⟩)) (hg : Blk w g t cs) (hu : P.underlying ty = some (.array n e)) (hi : (P.info? ty).map (·.size) = some cs.size) :
    (results fn tmps).run P w = .ok (.agg cs) w :=
  results_cell_row h tmps w g t cs (0, 0) _ hp hg hu rfl hi
theorem dr2 {w : World} {m n : Nat} : ∃ k, (w.drewN m).drewN n = w.drewN k := ⟨m + n, by rw [World.drewN_drewN]⟩
theorem dr0 {w : World} : ∃ k, w = w.drewN k := ⟨0, rfl⟩
theorem below_drewN (B : Nat) (w : World) (n : Nat) : Below B w (w.drewN n) := ⟨rfl, rfl, rfl, Nat.le_refl _, fun _ _ => rfl⟩
theorem ret_eq {a b : Value} (h : a = b) : Ending.returned a = .returned b := by rw [h]
theorem ret_int {k : IntKind} {a b : Int} (h : a = b) : Ending.returned (.int k a) = .returned (.int k b) := by rw [h]
theorem ret_bool {a b : Bool} (h : a = b) : Ending.returned (.bool a) = .returned (.bool b) := by rw [h]

theorem Try.infoInt : (Try.prog.info? 3).map (fun i => (i.zero, i.size, i.bytes)) = some (some (.int .i64 0), 1, 8) := by kernel_rfl
end Go.Proofs.Ythinbmjcdcmioaa

/-
  The helpers of the exact laws by their contracts: copying, comparing, marking, holding a slice of integers. Conditions: the length is at most 2^40.
-/

namespace Go.Proofs.Ythinbmjcdcmioaa
open Go.RowKit

/-- What a copying loop has made after k rounds. -/
def copied (xs : List Int) (k : Nat) : List Value := (xs.take k).map (Value.int .i64) ++ List.replicate (xs.length - k) (.int .i64 0)
theorem copied_zero (xs : List Int) : copied xs 0 = List.replicate xs.length (.int .i64 0) := by simp [copied]
theorem copied_all (xs : List Int) : copied xs xs.length = xs.map (Value.int .i64) := by simp [copied]
theorem copied_len (xs : List Int) (k : Nat) (h : k ≤ xs.length) : (copied xs k).length = xs.length := by simp [copied]; omega
theorem copied_get (xs : List Int) (k : Nat) (h : k < xs.length) : (copied xs k)[k]? = some (.int .i64 0) := by
  unfold copied
  rw [List.getElem?_append_right (by simp; omega)]
  rw [List.getElem?_replicate]
  simp; omega
theorem copied_succ (xs : List Int) (k : Nat) (h : k < xs.length) : (copied xs k).set k (.int .i64 (nth xs k)) = copied xs (k + 1) := by
  unfold copied
  have hl : (List.map (Value.int .i64) (xs.take k)).length = k := by simp; omega
  rw [List.set_append_right _ _ (by omega), hl]
  have e : xs.length - k = (xs.length - (k + 1)) + 1 := by omega
  rw [e, List.replicate_succ, Nat.sub_self, List.set_cons_zero, take_nth h, List.map_append, List.append_assoc]
  rfl

set_option maxHeartbeats 400000 in
/-- toIntS: a copy of its own. -/
theorem toIntS_any (A : Option Addr) (n c : Nat) (xs : List Int) (w : World) (hs : SI w A n xs) (hn : n ≤ 1099511627776) :
    Calls Try.prog 16 #[.slice A n c] w fun e w' =>
      e = .returned (.slice (some ⟨w.heap.size, 0, none⟩) n n) ∧ w'.ownsRow w.heap.size 3 1 (.slice (some ⟨w.heap.size, 0, none⟩) n n) n (xs.map (Value.int .i64)) ∧ Below w.heap.size w w' := by
  obtain ⟨i0, hi, hz0, hz1, hz2⟩ := info_parts Try.infoInt
  have hl := hs.1
  obtain ⟨B, hB⟩ : ∃ B, B = w.heap.size := ⟨_, rfl⟩
  have HB : Hid (B = w.heap.size) := hB
  have hBle : B ≤ w.heap.size := by omega
  go_enter Try.func16, Try.ntmps16
  go_wp2_with (at_make; refine wpList_make_full _ rfl (.tmp 6) (.tmp 6) 22 rfl w.heap.size 3 i0 (.int .i64 0) 1 Try.underlying22 hi hz0 hz1 .i64 .i64 (n : Int) (n : Int) n rfl rfl rfl rfl (by rw [hz2]; omega) (by unfold maxLen; omega) (Nat.le_refl _) ?_; intro w1 hown hgrow)
  rw [← hB] at hown ⊢
  go_loopw [4] (fun i wr => ∃ k : Nat, k ≤ n ∧ i = .int .i64 k ∧ wr.ownsRow B 3 1 (.slice (some ⟨B, 0, none⟩) n n) n (copied xs k) ∧ Below B w wr)
    (fun i _ => n - (intOf i).toNat)
  case atStart =>
    refine ⟨0, Nat.zero_le _, rfl, ?_, ?_⟩
    · rw [copied_zero, hl]
      simpa [toList_madeCells_one, Value.cells] using hown
    · exact ((Below.refl _ _).grown hgrow (by omega) (by intro k hk; cases hk))
  case round =>
    obtain ⟨k, hk, rfl, hown, hbel⟩ := hrel
    by_cases hlt : k < n
    · obtain ⟨b, o, rfl, hb, hc⟩ := hs.at_ (by omega)
      have hc1 : wr.cell? ⟨b, o + k, none⟩ = some (.int .i64 (nth xs k)) := (hbel.cell (p := ⟨b, o + k, none⟩) (by show b < B; omega)).trans (hc k hlt)
      have hc2 : wr.cell? ⟨B, k, none⟩ = some (.int .i64 0) := (hown.cellAt k (by omega)).trans (copied_get xs k (by omega))
      have hf2 : wr.frozen? ⟨B, k, none⟩ = false := hown.frozenAt k
      have hst := (hown.stored k (.int .i64 (nth xs k))).1
      rw [copied_succ xs k (by omega)] at hst
      have HS := Lib.hid hst
      have HBel := Lib.hid hbel
      clear hst hown hbel hc hB
      go_wp2
      go_roundw
      case rel => exact ⟨k + 1, by omega, by go_num, HS.out, HBel.out.setCell (Nat.le_refl _) _⟩
      case measure => simp [intOf]; omega
    · have hkn : k = n := by omega
      subst hkn
      go_wp2
      go_ret
      obtain rfl := HB.out
      refine ⟨rfl, ?_, ?_⟩
      · rw [← hl, copied_all] at hown; rw [← hl]; exact hown
      · exact hbel
/-- Equality of two lists as a Bool (not unfolded by the walk). -/
def eqL (xs ys : List Int) : Bool := decide (xs = ys)
theorem eqL_self (xs : List Int) : eqL xs xs = true := by simp [eqL]
theorem eqL_len {xs ys : List Int} (h : xs.length ≠ ys.length) : eqL xs ys = false := by
  simp only [eqL, decide_eq_false_iff_not]; intro e; exact h (by rw [e])
theorem eqL_all {xs ys : List Int} (hl : xs.length = ys.length) (h : ∀ j, j < xs.length → nth xs j = nth ys j) : eqL xs ys = true := by
  simp only [eqL, decide_eq_true_eq]
  apply List.ext_getElem hl
  intro j h1 h2
  have := h j h1
  rwa [nth_get h1, nth_get h2] at this
theorem eqL_ne {xs ys : List Int} {k : Nat} (h : nth xs k ≠ nth ys k) : eqL xs ys = false := by
  simp only [eqL, decide_eq_false_iff_not]; intro e; exact h (by rw [e])

set_option maxHeartbeats 400000 in
/-- eqIntS: are the two lists one. -/
theorem eqIntS_any (A A' : Option Addr) (n c n' c' : Nat) (xs ys : List Int) (w : World) (hs : SI w A n xs) (hs' : SI w A' n' ys) (hn : n ≤ 1099511627776) (hn' : n' ≤ 1099511627776) :
    Calls Try.prog 18 #[.slice A n c, .slice A' n' c'] w fun e w' => e = .returned (.bool (eqL xs ys)) ∧ Drawn w w' := by
  have hl := hs.1
  have hl' := hs'.1
  by_cases hne : n = n'
  · subst hne
    go_enter Try.func18, Try.ntmps18
    go_wp2
    go_loopw [5] (fun i wr => ∃ k : Nat, k ≤ n ∧ i = .int .i64 k ∧ Drawn w wr ∧ ∀ j, j < k → nth xs j = nth ys j)
      (fun i _ => n - (intOf i).toNat)
    case atStart => exact ⟨0, Nat.zero_le _, rfl, Drawn.refl _, fun j hj => absurd hj (by omega)⟩
    case round =>
      obtain ⟨k, hk, rfl, hD, hall⟩ := hrel
      have HA := Lib.hid hall
      have hs := hD.si hs
      have hs' := hD.si hs'
      have HD := Lib.hid hD
      clear hall hD
      by_cases hlt : k < n
      · obtain ⟨b, o, rfl, hb, hc⟩ := hs.at_ (by omega)
        obtain ⟨b', o', rfl, hb', hc'⟩ := hs'.at_ (by omega)
        have hc1 := hc k hlt
        have hc1' := hc' k hlt
        clear hc hc' hs hs' hl hl'
        by_cases heq : nth xs k = nth ys k
        · have HE := Lib.hid heq
          rw [← heq] at hc1'
          clear heq
          obtain ⟨x, hx⟩ : ∃ x, x = nth xs k := ⟨_, rfl⟩
          rw [← hx] at hc1 hc1'
          clear hx
          have hlI : (k : Int) < (n : Int) := by omega
          go_wp2_with fail
          go_quiet (fail)
          go_wp2
          go_roundw
          case rel => exact ⟨k + 1, by omega, by go_num, HD.out.drewN _, fun j hj => by
            rcases Nat.lt_or_ge j k with h | h
            · exact HA.out j h
            · obtain rfl : j = k := by omega
              exact HE.out⟩
          case measure => simp [intOf]; omega
        · have HE := Lib.hid heq
          obtain ⟨x, hx⟩ : ∃ x, x = nth xs k := ⟨_, rfl⟩
          obtain ⟨y, hy⟩ : ∃ y, y = nth ys k := ⟨_, rfl⟩
          rw [← hx] at hc1 heq
          rw [← hy] at hc1' heq
          clear hx hy
          have hlI : (k : Int) < (n : Int) := by omega
          have hb : (x != y) = true := by simpa using heq
          clear heq
          go_wp2_with fail
          go_quiet (fail)
          go_wp2
          go_ret
          exact ⟨ret_bool (eqL_ne HE.out).symm, HD.out.drewN _⟩
      · have hkn : k = n := by omega
        subst hkn
        go_wp2
        go_ret
        exact ⟨ret_bool (eqL_all (by omega) (by rw [hl]; exact HA.out)).symm, HD.out⟩
  · have hne' : ¬ (n : Int) = (n' : Int) := by omega
    go_enter Try.func18, Try.ntmps18
    go_wp2
    go_ret
    exact ⟨ret_bool (eqL_len (by omega)).symm, Drawn.refl _⟩

/-- The numbers j, j+1, .. that marking writes: k of them, over the first k places. -/
def marked (xs : List Int) (q : Int) (k : Nat) : List Value := (List.range k).map (fun (j : Nat) => Value.int .i64 (q + j)) ++ (xs.drop k).map (Value.int .i64)
def marks (n : Nat) (q : Int) : List Int := (List.range n).map (fun (j : Nat) => q + j)
theorem marked_zero (xs : List Int) (q : Int) : marked xs q 0 = xs.map (Value.int .i64) := by simp [marked]
theorem marked_all (xs : List Int) (q : Int) : marked xs q xs.length = (marks xs.length q).map (Value.int .i64) := by simp [marked, marks]
theorem marked_get (xs : List Int) (q : Int) (k : Nat) (h : k < xs.length) : (marked xs q k)[k]? = some (.int .i64 (nth xs k)) := by
  unfold marked
  rw [List.getElem?_append_right (by simp)]
  simp [nth_get h, h]
theorem marked_succ (xs : List Int) (q : Int) (k : Nat) (h : k < xs.length) : (marked xs q k).set k (.int .i64 (q + k)) = marked xs q (k + 1) := by
  unfold marked
  rw [List.set_append_right _ _ (by simp)]
  rw [List.drop_eq_getElem_cons h, List.range_succ]
  simp only [List.length_map, List.length_range, Nat.sub_self, List.map_cons, List.set_cons_zero, List.map_append, List.append_assoc, List.map_nil]
  rfl
theorem marks_len (n : Nat) (q : Int) : (marks n q).length = n := by simp [marks]
theorem marks_nth (n : Nat) (q : Int) (k : Nat) (h : k < n) : nth (marks n q) k = q + k := by simp [nth, marks, List.getD, h]

set_option maxHeartbeats 400000 in
/-- markIntS on a slice of the call's own: it then holds q, q+1, .. -/
theorem markIntS_own (g n c : Nat) (xs : List Int) (q : Int) (base : Nat) (w : World) (hs : w.ownsRow base 3 1 (.slice (some ⟨g, 0, none⟩) n c) n (xs.map (Value.int .i64)))
    (hn : n ≤ 1099511627776) (hq : 0 ≤ q) (hq' : q ≤ 1099511627776) :
    Calls Try.prog 21 #[.slice (some ⟨g, 0, none⟩) n c, .int .i64 q] w fun e w' =>
      e = .returned (.int .i64 (q + n)) ∧ w'.ownsRow base 3 1 (.slice (some ⟨g, 0, none⟩) n c) n ((marks n q).map (Value.int .i64)) ∧ w.grownBy w' (some g) := by
  have hl : xs.length = n := by have := hs.1; simpa using this
  go_enter Try.func21, Try.ntmps21
  go_wp2
  go_loopw [1, 5] (fun p i wr => ∃ k : Nat, k ≤ n ∧ i = .int .i64 k ∧ p = .int .i64 (q + k) ∧ wr.ownsRow base 3 1 (.slice (some ⟨g, 0, none⟩) n c) n (marked xs q k) ∧ w.grownBy wr (some g))
    (fun _ i _ => n - (intOf i).toNat)
  case atStart => exact ⟨0, Nat.zero_le _, rfl, by simp, by rw [marked_zero]; exact hs, World.grownBy.refl _ _⟩
  case round =>
    obtain ⟨k, hk, rfl, rfl, hown, hgr⟩ := hrel
    by_cases hlt : k < n
    · have hc2 : wr.cell? ⟨g, k, none⟩ = some (.int .i64 (nth xs k)) := (hown.cellAt k (by omega)).trans (marked_get xs q k (by omega))
      have hf2 : wr.frozen? ⟨g, k, none⟩ = false := hown.frozenAt k
      have hst := hown.stored k (.int .i64 (q + k))
      rw [marked_succ xs q k (by omega)] at hst
      have HS := Lib.hid hst.1
      have HG := Lib.hid (hgr.trans hst.2)
      clear hst hown hgr
      go_wp2
      go_roundw
      case rel => exact ⟨k + 1, by omega, by go_num, by go_num, HS.out, HG.out⟩
      case measure => simp [intOf]; omega
    · have hkn : k = n := by omega
      subst hkn
      go_wp2
      go_ret
      refine ⟨rfl, ?_, hgr⟩
      rw [← hl, marked_all] at hown; rw [← hl]; exact hown

set_option maxHeartbeats 400000 in
/-- heldIntS where the marks are held. -/
theorem heldIntS_yes (A : Option Addr) (n c : Nat) (q : Int) (w : World) (hs : SI w A n (marks n q)) (hn : n ≤ 1099511627776) (hq : 0 ≤ q) (hq' : q ≤ 1099511627776) :
    Calls Try.prog 22 #[.slice A n c, .int .i64 q] w fun e w' => e = .returned (.int .i64 (q + n)) ∧ Drawn w w' := by
  go_enter Try.func22, Try.ntmps22
  go_wp2
  go_loopw [1, 5] (fun p i wr => ∃ k : Nat, k ≤ n ∧ i = .int .i64 k ∧ p = .int .i64 (q + k) ∧ Drawn w wr)
    (fun _ i _ => n - (intOf i).toNat)
  case atStart => exact ⟨0, Nat.zero_le _, rfl, by simp, Drawn.refl _⟩
  case round =>
    obtain ⟨k, hk, rfl, rfl, hD⟩ := hrel
    have hs := hD.si hs
    have HD := Lib.hid hD
    clear hD
    by_cases hlt : k < n
    · obtain ⟨b, o, rfl, hb, hc⟩ := hs.at_ (by omega)
      have hc1 := hc k hlt
      rw [marks_nth n q k hlt] at hc1
      clear hc hs
      go_wp2
      go_roundw
      case rel => exact ⟨k + 1, by omega, by go_num, by go_num, HD.out⟩
      case measure => simp [intOf]; omega
    · have hkn : k = n := by omega
      subst hkn
      go_wp2
      go_ret
      exact ⟨rfl, HD.out⟩
end Go.Proofs.Ythinbmjcdcmioaa

/-
  Slices of integers that a call owns: words and laws (appending one number, copying a whole slice, marking). No conditions beyond lengths below 2^40.
-/


namespace Go.Proofs.Ythinbmjcdcmioaa
open Go.RowKit

/-- The slice (A, n, c) holds the integers xs in a block of its own between lo and hi (or is nil). -/
def Own (w : World) (lo hi : Nat) (A : Option Addr) (n c : Nat) (xs : List Int) : Prop :=
  w.ownsRow lo 3 1 (.slice A n c) n (xs.map (Value.int .i64)) ∧ ∀ k, (Value.slice A n c).ownBlock = some k → k < hi

section
variable {w w' : World} {lo hi n c : Nat} {A : Option Addr} {xs : List Int}
theorem Own.len (h : Own w lo hi A n c xs) : xs.length = n := by simpa using h.1.1
theorem Own.si (h : Own w lo hi A n c xs) : SI w A n xs := SI.of_own h.1
theorem Own.cap (h : Own w lo hi A n c xs) : n ≤ c := by
  rcases h.1.2 with ⟨e, h0⟩ | ⟨g, cap, cur, e, _, _, hc, _⟩
  · omega
  · injection e with _ _ e3; omega
theorem Own.nil (w : World) (lo hi : Nat) : Own w lo hi none 0 0 [] := ⟨World.ownsRow_nil _ _ _ _, fun k hk => by simp [Value.ownBlock] at hk⟩
theorem Own.of (h : w.ownsRow lo 3 1 (.slice A n c) n (xs.map (Value.int .i64))) : Own w lo w.heap.size A n c xs := ⟨h, fun k hk => (h.lt k hk).2⟩
theorem Own.lt (h : Own w lo hi A n c xs) : ∀ k, (Value.slice A n c).ownBlock = some k → lo ≤ k ∧ k < hi := fun k hk => ⟨(h.1.lt k hk).1, h.2 k hk⟩
theorem Own.grown {row : Option Nat} (h : Own w lo hi A n c xs) (hg : w.grownBy w' row) (hr : ∀ g, row = some g → g < lo ∨ hi ≤ g) : Own w' lo hi A n c xs := by
  refine ⟨h.1.kept hg ?_, h.2⟩
  cases hb : (Value.slice A n c).ownBlock with
  | none => exact .inl rfl
  | some k =>
    refine .inr fun e => ?_
    have := h.lt k hb
    have := hr k e.symm
    omega
theorem Own.below {B : Nat} (h : Own w lo hi A n c xs) (hb : Below B w w') (hB : hi ≤ B) : Own w' lo hi A n c xs := by
  refine ⟨⟨h.1.1, ?_⟩, h.2⟩
  rcases h.1.2 with hn | ⟨g, cap, cur, e, hl, hg, rest⟩
  · exact .inl hn
  · have hlt := h.2 g (by rw [e]; rfl)
    exact .inr ⟨g, cap, cur, e, hl, (hb.block g (by omega)).trans hg, rest⟩
theorem Own.drawn (h : Own w lo hi A n c xs) (hd : Drawn w w') : Own w' lo hi A n c xs := h.below (hd.below hi) (Nat.le_refl _)
theorem Own.wide {lo' hi' : Nat} (h : Own w lo hi A n c xs) (h1 : lo' ≤ lo) (h2 : hi ≤ hi') : Own w lo' hi' A n c xs := by
  refine ⟨⟨h.1.1, ?_⟩, fun k hk => Nat.lt_of_lt_of_le (h.2 k hk) h2⟩
  rcases h.1.2 with hn | ⟨g, cap, cur, e, hl, rest⟩
  · exact .inl hn
  · exact .inr ⟨g, cap, cur, e, Nat.le_trans h1 hl, rest⟩
theorem Own.cellAt {g k : Nat} (h : Own w lo hi (some ⟨g, 0, none⟩) n c xs) (hk : k < n) : w.cell? ⟨g, k, none⟩ = some (.int .i64 (nth xs k)) := by
  have hl := h.len
  rw [h.1.cellAt k (by omega), List.getElem?_map, nth_get? (by omega)]; rfl
theorem Own.frozenAt {g : Nat} (h : Own w lo hi (some ⟨g, 0, none⟩) n c xs) (k : Nat) : w.frozen? ⟨g, k, none⟩ = false := h.1.frozenAt k
theorem Own.place (h : Own w lo hi A n c xs) (hn : 0 < n) : ∃ g, A = some ⟨g, 0, none⟩ ∧ lo ≤ g ∧ g < hi := by
  obtain ⟨g, cap, e, h1, h2⟩ := h.1.form hn
  have hA : A = some ⟨g, 0, none⟩ := by injection e
  subst hA
  exact ⟨g, rfl, h1, h.2 g rfl⟩
theorem Own.set_ {g k : Nat} (h : Own w lo hi (some ⟨g, 0, none⟩) n c xs) (x : Int) :
    Own (w.setCell ⟨g, k, none⟩ (.int .i64 x)) lo hi (some ⟨g, 0, none⟩) n c (xs.set k x) ∧ w.grownBy (w.setCell ⟨g, k, none⟩ (.int .i64 x)) (some g) := by
  obtain ⟨h1, h2⟩ := h.1.stored k (.int .i64 x)
  refine ⟨⟨?_, h.2⟩, h2⟩
  rw [List.map_set]
  exact h1
end
theorem Own.empty (w : World) : Own (w.alloc (.cells #[] 3)) w.heap.size (w.heap.size + 1) (some ⟨w.heap.size, 0, none⟩) 0 0 [] :=
  ⟨World.ownsRow_lit w #[] 0 (Nat.le_refl _) (Nat.zero_le _) rfl, fun k hk => by simp [Value.ownBlock] at hk; omega⟩
theorem Below.alloc_self (w : World) (o : Obj) : Below w.heap.size w (w.alloc o) := (Below.refl _ _).alloc (Nat.le_refl _) _
theorem _root_.Go.RowKit.Below.drawnN {B : Nat} {a w : World} (h : Below B a w) (n : Nat) : Below B a (w.drewN n) := h.trans ⟨rfl, rfl, rfl, Nat.le_refl _, fun _ _ => rfl⟩
theorem grow_below {B : Nat} {w w' : World} {row : Option Nat} (hg : w.grownBy w' row) (hB : B ≤ w.heap.size) (hr : ∀ k, row = some k → B ≤ k) : Below B w w' := (Below.refl B w).grown hg hB hr

/-- What a call that makes a new slice hands back. -/
def Fresh (w w' : World) (e : Ending) (ys : List Int) : Prop :=
  ∃ A n c, e = .returned (.slice A n c) ∧ Own w' w.heap.size w'.heap.size A n c ys ∧ Below w.heap.size w w'

theorem Own.apart {w w' : World} {lo hi n c lo' hi' n' c' : Nat} {A A' : Option Addr} {xs xs' : List Int} (ho : Own w lo hi A n c xs) (hx : Own w lo' hi' A' n' c' xs')
    (hg : w.grownBy w' (Value.slice A' n' c').ownBlock) (h : hi ≤ lo' ∨ hi' ≤ lo) : Own w' lo hi A n c xs :=
  ho.grown hg fun g e => by have := hx.lt g e; omega
theorem Own.mark_below {w w' : World} {B lo hi n c : Nat} {A : Option Addr} {xs : List Int} (hx : Own w lo hi A n c xs) (hg : w.grownBy w' (Value.slice A n c).ownBlock) (hB : B ≤ w.heap.size) (hl : B ≤ lo) : Below B w w' :=
  grow_below hg hB fun k e => by have := hx.lt k e; omega

theorem toIntS_fr (A : Option Addr) (n c : Nat) (xs : List Int) (w : World) (hs : SI w A n xs) (hn : n ≤ 1099511627776) :
    Calls Try.prog 16 #[.slice A n c] w fun e w' => Fresh w w' e xs :=
  (toIntS_any A n c xs w hs hn).mono fun _ _ ⟨he, ho, hb⟩ => ⟨_, _, _, he, Own.of ho, hb⟩

set_option maxHeartbeats 400000 in
/-- markIntS on any slice of the call's own, nil and empty ones among them. -/
theorem markIntS_any (A : Option Addr) (n c lo hi : Nat) (xs : List Int) (q : Int) (w : World) (hs : Own w lo hi A n c xs) (hn : n ≤ 1099511627776) (hq : 0 ≤ q) (hq' : q ≤ 1099511627776) :
    Calls Try.prog 21 #[.slice A n c, .int .i64 q] w fun e w' => e = .returned (.int .i64 (q + n)) ∧ Own w' lo hi A n c (marks n q) ∧ w.grownBy w' (Value.slice A n c).ownBlock := by
  by_cases h0 : 0 < n
  · obtain ⟨g, rfl, _, _⟩ := hs.place h0
    exact (markIntS_own g n c xs q lo w hs.1 hn hq hq').mono fun e w' ⟨he, ho, hg⟩ => ⟨he, ⟨ho, hs.2⟩, hg⟩
  · have hz : n = 0 := by omega
    subst hz
    have hx : xs = [] := List.eq_nil_of_length_eq_zero hs.len
    subst hx
    have HS := Lib.hid hs
    clear hs
    go_enter Try.func21, Try.ntmps21
    go_wp2
    refine wp_loop_rounds 1 ?_
    rw [rounds_succ]
    go_wp2
    go_ret
    exact ⟨by simp, HS.out, World.grownBy.refl _ _⟩

/-- 'make([]int, n)'. -/
theorem wpList_make_zero {ops : Array Oper} {rest : List Oper} {o : Oper} {a : Act} {w : World} {Q : Exit → Act → World → Prop} (hgd : o.guard = none) (l c : Operand) (ho : o.op = .makeSlice 22 l c)
    (n : Nat) (hl : a.eval l = .int .i64 n) (hc : a.eval c = .int .i64 n) (hn : n ≤ 1099511627776)
    (hK : ∀ w', Own w' w.heap.size w'.heap.size (some ⟨w.heap.size, 0, none⟩) n n (List.replicate n 0) → Below w.heap.size w w' → wpList Try.prog ops Q rest (a.put o.dst (.slice (some ⟨w.heap.size, 0, none⟩) n n)) w') :
    wpList Try.prog ops Q (o :: rest) a w := by
  obtain ⟨i0, hi, hz0, hz1, hz2⟩ := info_parts Try.infoInt
  refine wpList_make_full w hgd l c 22 ho w.heap.size 3 i0 (.int .i64 0) 1 Try.underlying22 hi hz0 hz1 .i64 .i64 n n n hl hc rfl rfl (by rw [hz2]; omega) (by unfold maxLen; omega) (Nat.le_refl _) ?_
  intro w1 ho1 hg1
  have e : (madeCells (Value.int .i64 0).cells (n * 1)).toList = (List.replicate n (0 : Int)).map (Value.int .i64) := by
    rw [show (Value.int .i64 0).cells = #[Value.int .i64 0] from rfl, Nat.mul_one, toList_madeCells_one]; simp
  rw [e] at ho1
  exact hK w1 (Own.of ho1) (grow_below hg1 (Nat.le_refl _) (by intro k hk; cases hk))

/-- 'out = append(out, x)' on a slice of the call's own. -/
theorem wpList_append1 {ops : Array Oper} {rest : List Oper} {o : Oper} {a : Act} {w : World} {Q : Exit → Act → World → Prop} (hgd : o.guard = none) (s x : Operand)
    (ho : o.op = .call { callee := .builtin .append, args := #[s, x], argTypes := #[22, 22] })
    (lo : Nat) (A : Option Addr) (n c : Nat) (xs : List Int) (v : Int) (hs : a.eval s = .slice A n c) (hx : a.eval x = .slice (some ⟨w.heap.size, 0, none⟩) 1 1)
    (hown : Own w lo w.heap.size A n c xs) (hlo : lo ≤ w.heap.size) (hn : n ≤ 1099511627776)
    (hK : ∀ A' c' w', Own w' lo w'.heap.size A' (n + 1) c' (xs ++ [v]) → w.grownBy w' (Value.slice A n c).ownBlock → Below lo w w' → wpList Try.prog ops Q rest (a.put o.dst (.slice A' (n + 1) c')) w') :
    wpList Try.prog ops Q (o :: rest) a (w.alloc (.cells #[.int .i64 v] 3)) := by
  obtain ⟨i0, hi, hz0, hz1, hz2⟩ := info_parts Try.infoInt
  refine wpList_append_own _ hgd s x 22 ho lo 3 i0 (.int .i64 0) 1 8 Try.underlying22 hi hz0 hz1 hz2 rfl (by decide) _ _ _ hs (hown.1.alloc _) ⟨w.heap.size, 0, none⟩ 1 1 [.int .i64 v] hx rfl ?_ ?_ (by unfold maxLen; omega) (by omega) (by simp; omega) ?_
  · intro j u hj
    match j, hj with
    | 0, hj =>
      simp at hj
      subst hj
      rw [add_pt]
      exact (Blk.new w 3 #[.int .i64 v]).cell 0
  · intro u hu
    simp at hu
    subst hu
    rfl
  · intro v' w1 ho1 hg1 _
    have e1 : List.map (Value.int .i64) xs ++ [Value.int .i64 v] = (xs ++ [v]).map (Value.int .i64) := by simp
    rw [e1] at ho1
    obtain ⟨g, cap, rfl, _, _⟩ := ho1.form (by omega)
    have hg2 : w.grownBy w1 (Value.slice A n c).ownBlock := (World.grownBy_alloc w _ _).trans hg1
    exact hK _ _ w1 (Own.of ho1) hg2 (grow_below hg2 hlo (fun k hk => (hown.1.lt k hk).1))

set_option maxRecDepth 100000 in
/-- 'append([]int{}, l...)' and the like: a whole slice appended to an empty one that was just made. -/
theorem wpList_append_all {ops : Array Oper} {rest : List Oper} {o : Oper} {a : Act} {w : World} {Q : Exit → Act → World → Prop} (hgd : o.guard = none) (s x : Operand)
    (ho : o.op = .call { callee := .builtin .append, args := #[s, x], argTypes := #[22, 22] })
    (lo : Nat) (A : Option Addr) (n c : Nat) (xs : List Int) (A2 : Option Addr) (m c2 : Nat) (ys : List Int) (hs : a.eval s = .slice A n c) (hx : a.eval x = .slice A2 m c2)
    (hown : Own w lo w.heap.size A n c xs) (hsi : SI w A2 m ys) (hlo : lo ≤ w.heap.size) (hn : n ≤ 1099511627776) (hm : m ≤ 1099511627776)
    (hK : ∀ A' c' w', Own w' lo w'.heap.size A' (n + m) c' (xs ++ ys) → w.grownBy w' (Value.slice A n c).ownBlock → Below lo w w' → wpList Try.prog ops Q rest (a.put o.dst (.slice A' (n + m) c')) w') :
    wpList Try.prog ops Q (o :: rest) a w := by
  obtain ⟨i0, hi, hz0, hz1, hz2⟩ := info_parts Try.infoInt
  by_cases h0 : 0 < m
  · obtain ⟨b, off, rfl, hb, hc⟩ := hsi.2 h0
    refine wpList_append_own _ hgd s x 22 ho lo 3 i0 (.int .i64 0) 1 8 Try.underlying22 hi hz0 hz1 hz2 rfl (by decide) _ _ _ hs hown.1 ⟨b, off, none⟩ m c2 (ys.map (Value.int .i64)) hx (by simp [hsi.1]) ?_ (ints_oneCell _ _) (by unfold maxLen; omega) (by omega) hlo ?_
    · intro j u hj
      have hjl : j < ys.length := by
        rcases Nat.lt_or_ge j ys.length with h | h
        · exact h
        · rw [List.getElem?_eq_none (by simpa using h)] at hj; cases hj
      rw [List.getElem?_map, nth_get? hjl] at hj
      rw [add_pt, hc j (by have := hsi.1; omega)]
      exact hj
    · intro v' w1 ho1 hg1 _
      rw [← List.map_append] at ho1
      obtain ⟨g, cap, rfl, _, _⟩ := ho1.form (by omega)
      exact hK _ _ w1 (Own.of ho1) hg1 (grow_below hg1 hlo (fun k hk => (hown.1.lt k hk).1))
  · have hm0 : m = 0 := by omega
    subst hm0
    have hy : ys = [] := List.eq_nil_of_length_eq_zero hsi.1
    subst hy
    have hk0 := hK A c w (by simpa using hown) (World.grownBy.refl _ _) (Below.refl _ _)
    refine wpList_plain hgd fun K hK' => ?_
    have hrun : (Builtin.append_ #[22, 22] o.type #[.slice A n c, .slice A2 0 c2]).run Try.prog w = .ok (.slice A n c) w := by
      have hg := hown.1
      have hl0 : ∀ v, (loadCells v 0).run Try.prog w = .ok #[] w := fun v => by simp [loadCells, loadCellsFrom]
      rcases hg.2 with ⟨e, h0⟩ | ⟨g, cap, cur, e, _, hgg, hnc, _⟩
      · injection e with e1 e2 e3
        subst e1; subst e3; subst h0
        cases A2 <;> simp [Builtin.append_, run_underlying Try.underlying22, sizeOf, typeInfo, hi, Builtin.lenOf, Builtin.firstCells, hl0]
      · injection e with e1 e2 e3
        subst e1; subst e3
        cases A2 <;> simp [Builtin.append_, run_underlying Try.underlying22, sizeOf, typeInfo, hi, Builtin.lenOf, Builtin.firstCells, hnc, storeCells, hl0]
    unfold Oper.wp
    simp [execOp, ho, resolve, invoke, builtin, hs, hx, hrun, Result.andThen]
    exact hK' _ _ (by simpa using hk0)
end Go.Proofs.Ythinbmjcdcmioaa

/-
  What a permutation is: the specification's test by its contract. Conditions: the length is at most 2^40.
-/

namespace Go.Proofs.Ythinbmjcdcmioaa
open Go.RowKit

/-- Is a number among the first of a list (not unfolded by the walk). -/
def hasB (xs : List Int) (x : Int) : Bool := decide (x ∈ xs)
/-- Is place k of the list one that a permutation may have. -/
def goodAt (xs : List Int) (k : Nat) : Prop := 0 ≤ nth xs k ∧ nth xs k ≤ (xs.length : Int) - 1 ∧ hasB (xs.take k) (nth xs k) = false
instance (xs : List Int) (k : Nat) : Decidable (goodAt xs k) := by unfold goodAt; infer_instance
def isPermP (xs : List Int) : Prop := 1 ≤ xs.length ∧ xs.length ≤ 7 ∧ ∀ k, k < xs.length → goodAt xs k
/-- Is the list a permutation (not unfolded by the walk). -/
def isPermB (xs : List Int) : Bool := decide (1 ≤ xs.length) && decide (xs.length ≤ 7) && (List.range xs.length).all fun k => decide (goodAt xs k)
theorem isPermB_iff (xs : List Int) : isPermB xs = true ↔ isPermP xs := by
  simp [isPermB, isPermP, and_assoc]
theorem isPermB_true {xs : List Int} (h : isPermP xs) : isPermB xs = true := (isPermB_iff xs).2 h
theorem isPermB_false {xs : List Int} (h : ¬ isPermP xs) : isPermB xs = false := by
  cases hb : isPermB xs with
  | false => rfl
  | true => exact absurd ((isPermB_iff xs).1 hb) h
theorem hasB_nil (x : Int) : hasB [] x = false := by simp [hasB]
theorem hasB_hit {xs : List Int} {k : Nat} (hk : k < xs.length) : hasB xs (nth xs k) = true := by
  rw [nth_get hk]; simp [hasB]
theorem hasB_all {xs : List Int} {x : Int} (h : ∀ j, j < xs.length → nth xs j ≠ x) : hasB xs x = false := by
  simp only [hasB, decide_eq_false_iff_not]
  intro hm
  obtain ⟨j, hj, e⟩ := List.mem_iff_getElem.1 hm
  exact h j hj (by rw [nth_get hj]; exact e)

theorem l1In_any (a lo hi : Int) (w : World) :
    Calls Try.prog 55 #[.int .i64 a, .int .i64 lo, .int .i64 hi] w fun e w' => e = .returned (.bool (decide (lo ≤ a) && decide (a ≤ hi))) ∧ w = w' := by
  by_cases h1 : lo ≤ a
  · by_cases h2 : a ≤ hi
    · go_enter Try.func55, Try.ntmps55
      go_wp2
      go_ret
      exact ⟨ret_bool (by simp [h1, h2]), rfl⟩
    · go_enter Try.func55, Try.ntmps55
      go_wp2
      go_ret
      exact ⟨ret_bool (by simp [h2]), rfl⟩
  · have h1' : a < lo := by omega
    go_enter Try.func55, Try.ntmps55
    go_wp2
    go_ret
    exact ⟨ret_bool (by simp; intro; omega), rfl⟩
theorem l1In_yes' {a lo hi : Int} (h : lo ≤ a) (h' : a ≤ hi) (w : World) :
    Calls Try.prog 55 #[.int .i64 a, .int .i64 lo, .int .i64 hi] w fun e w' => e = .returned (.bool true) ∧ w = w' := by
  have := l1In_any a lo hi w
  simpa [h, h'] using this
theorem l1In_no' {a lo hi : Int} (h : a < lo ∨ hi < a) (w : World) :
    Calls Try.prog 55 #[.int .i64 a, .int .i64 lo, .int .i64 hi] w fun e w' => e = .returned (.bool false) ∧ w = w' := by
  have e : (decide (lo ≤ a) && decide (a ≤ hi)) = false := by simp; omega
  have := l1In_any a lo hi w
  rwa [e] at this
theorem l1In_yes {a lo hi : Int} (h : lo ≤ a) (h' : a ≤ hi) (w : World) :
    Calls Try.prog 55 #[.int .i64 a, .int .i64 lo, .int .i64 hi] w fun e w' => e = .returned (.bool true) ∧ Drawn w w' :=
  (l1In_yes' h h' w).mono fun _ _ ⟨he, hw⟩ => ⟨he, hw ▸ Drawn.refl _⟩
theorem l1In_no {a lo hi : Int} (h : a < lo ∨ hi < a) (w : World) :
    Calls Try.prog 55 #[.int .i64 a, .int .i64 lo, .int .i64 hi] w fun e w' => e = .returned (.bool false) ∧ Drawn w w' :=
  (l1In_no' h w).mono fun _ _ ⟨he, hw⟩ => ⟨he, hw ▸ Drawn.refl _⟩

set_option maxHeartbeats 400000 in
theorem l1Has_any (A : Option Addr) (n c : Nat) (xs : List Int) (x : Int) (w : World) (hs : SI w A n xs) (hn : n ≤ 1099511627776) :
    Calls Try.prog 99 #[.slice A n c, .int .i64 x] w fun e w' => e = .returned (.bool (hasB xs x)) ∧ Drawn w w' := by
  have hl := hs.1
  go_enter Try.func99, Try.ntmps99
  go_wp2
  go_loopw [5] (fun i wr => ∃ k : Nat, k ≤ n ∧ i = .int .i64 k ∧ Drawn w wr ∧ ∀ j, j < k → nth xs j ≠ x)
    (fun i _ => n - (intOf i).toNat)
  case atStart => exact ⟨0, Nat.zero_le _, rfl, Drawn.refl _, fun j hj => absurd hj (by omega)⟩
  case round =>
    obtain ⟨k, hk, rfl, hD, hall⟩ := hrel
    have HA := Lib.hid hall
    have hs := hD.si hs
    have HD := Lib.hid hD
    clear hall hD
    by_cases hlt : k < n
    · obtain ⟨b, o, rfl, hb, hc⟩ := hs.at_ (by omega)
      have hc1 := hc k hlt
      have HL := Lib.hid hl
      clear hc hs hl
      by_cases heq : nth xs k = x
      · have HE := Lib.hid heq
        rw [heq] at hc1
        clear heq
        go_wp2
        go_ret
        refine ⟨ret_bool ?_, HD.out⟩
        rw [← HE.out]
        exact (hasB_hit (by have := HL.out; omega)).symm
      · have HE := Lib.hid heq
        obtain ⟨y, hy⟩ : ∃ y, y = nth xs k := ⟨_, rfl⟩
        rw [← hy] at hc1 heq
        clear hy
        have hb : (y == x) = false := by simpa using heq
        clear heq
        go_wp2
        go_roundw
        case rel => exact ⟨k + 1, by omega, by go_num, HD.out, fun j hj => by
          rcases Nat.lt_or_ge j k with h | h
          · exact HA.out j h
          · obtain rfl : j = k := by omega
            exact HE.out⟩
        case measure => simp [intOf]; omega
    · have hkn : k = n := by omega
      subst hkn
      go_wp2
      go_ret
      refine ⟨ret_bool ?_, HD.out⟩
      exact (hasB_all (by rw [hl]; exact HA.out)).symm

set_option maxHeartbeats 800000 in
theorem specIsPerm_any (A : Option Addr) (n c : Nat) (xs : List Int) (w : World) (hs : SI w A n xs) (hnc : n ≤ c) (hn : n ≤ 1099511627776) :
    Calls Try.prog 86 #[.slice A n c] w fun e w' => e = .returned (.bool (isPermB xs)) ∧ Drawn w w' := by
  have hl := hs.1
  by_cases hsz : 1 ≤ n ∧ n ≤ 7
  · obtain ⟨hs1, hs7⟩ := hsz
    go_enter Try.func86, Try.ntmps86
    go_wp2_with (go_at_call 55; refine (l1In_yes (by omega) (by omega) _).mono ?_; rintro e w1 ⟨rfl, hD1⟩)
    go_loopw [3] (fun i wr => ∃ k : Nat, k ≤ n ∧ i = .int .i64 k ∧ Drawn w wr ∧ ∀ j, j < k → goodAt xs j)
      (fun i _ => n - (intOf i).toNat)
    case atStart => exact ⟨0, Nat.zero_le _, rfl, hD1, fun j hj => absurd hj (by omega)⟩
    case round =>
      obtain ⟨k, hk, rfl, hD, hall⟩ := hrel
      have HA := Lib.hid hall
      have HL := Lib.hid hl
      have HD := Lib.hid hD
      have hs := hD.si hs
      clear hall hl hD hD1
      by_cases hlt : k < n
      · obtain ⟨b, o, e1, hb, hc⟩ := hs.at_ (by omega)
        have hst := hs.take (k := k) (by omega)
        subst e1
        have hc1 := hc k hlt
        have HST := Lib.hid hst
        clear hc hs hst
        obtain ⟨x, hx⟩ : ∃ x, x = nth xs k := ⟨_, rfl⟩
        obtain ⟨ys, hy⟩ : ∃ ys, ys = xs.take k := ⟨_, rfl⟩
        rw [← hx] at hc1
        rw [← hy] at HST
        have HX := Lib.hid hx
        have HY := Lib.hid hy
        clear hx hy
        have hlI : (k : Int) < (n : Int) := by omega
        have hwr : IntKind.i64.wrap ((n : Int) - 1) = (n : Int) - 1 := IntWalk.i64_in _ (by omega)
        by_cases hr : 0 ≤ x ∧ x ≤ (n : Int) - 1
        · obtain ⟨hx0, hx1⟩ := hr
          go_wp2_with fail
          go_quiet ((first | (go_at_call 55; go_must (refine Calls.quiet_of (l1In_yes hx0 hx1 _))) | (go_at_call 99; exact Calls.quiet_of (l1Has_any _ _ _ ys _ _ HST.out (by omega)))))
          go_wp2
          · have hh : hasB ys x = true := by assumption
            go_ret
            refine ⟨ret_bool ?_, HD.out.drewN _⟩
            refine (isPermB_false ?_).symm
            intro hp
            obtain ⟨_, _, g3⟩ := (hp.2.2 k (by have := HL.out; omega))
            rw [← HX.out, ← HY.out, hh] at g3
            cases g3
          · have hh' : hasB ys x = false := by assumption
            have HG : goodAt xs k := by
              have e1 := HX.out
              have e2 := HY.out
              have e3 := HL.out
              refine ⟨by omega, by omega, by rw [← e1, ← e2]; exact hh'⟩
            go_roundw
            case rel => exact ⟨k + 1, by omega, by go_num, HD.out.drewN _, fun j hj => by
              rcases Nat.lt_or_ge j k with h | h
              · exact HA.out j h
              · obtain rfl : j = k := by omega
                exact HG⟩
            case measure => simp [intOf]; omega
        · go_wp2_with fail
          go_quiet ((first | (go_at_call 55; exact Calls.quiet_of (l1In_no (by omega) _))))
          go_wp2
          go_ret
          refine ⟨ret_bool ?_, HD.out.drewN _⟩
          refine (isPermB_false ?_).symm
          intro hp
          have := (hp.2.2 k (by have := HL.out; omega))
          obtain ⟨g1, g2, _⟩ := this
          rw [← HX.out] at g1 g2
          rw [HL.out] at g2
          exact hr ⟨g1, g2⟩
      · have hkn : k = n := by omega
        subst hkn
        go_wp2
        go_ret
        refine ⟨ret_bool ?_, HD.out⟩
        exact (isPermB_true ⟨by have := HL.out; omega, by have := HL.out; omega, by rw [HL.out]; exact HA.out⟩).symm
  · go_enter Try.func86, Try.ntmps86
    go_wp2_with (go_at_call 55; refine (l1In_no (by omega) _).mono ?_; rintro e w1 ⟨rfl, hD1⟩)
    go_ret
    refine ⟨ret_bool ?_, hD1⟩
    exact (isPermB_false (fun hp => hsz ⟨by have := hp.1; omega, by have := hp.2.1; omega⟩)).symm
theorem specIsPerm_is {A : Option Addr} {n : Nat} (c : Nat) {xs : List Int} {w : World} {b : Bool} (hb : isPermB xs = b) (hs : SI w A n xs) (hnc : n ≤ c) (hn : n ≤ 1099511627776) :
    Calls Try.prog 86 #[.slice A n c] w fun e w' => e = .returned (.bool b) ∧ Drawn w w' := by
  subst hb; exact specIsPerm_any A n c xs w hs hnc hn
theorem isPermB_P {xs : List Int} (h : isPermB xs = true) : isPermP xs := (isPermB_iff xs).1 h
theorem isPermP.range {xs : List Int} (h : isPermP xs) (k : Nat) (hk : k < xs.length) : 0 ≤ nth xs k ∧ nth xs k < (xs.length : Int) := by
  obtain ⟨h1, h2, _⟩ := h.2.2 k hk
  omega
end Go.Proofs.Ythinbmjcdcmioaa

/-
  Contracts of the specification's functions that build lists: identity, longest. Conditions: lengths below 2^40.
-/


namespace Go.Proofs.Ythinbmjcdcmioaa
open Go.RowKit

def idL (n : Nat) : List Int := (List.range n).map fun (j : Nat) => (j : Int)
theorem idL_len (n : Nat) : (idL n).length = n := by simp [idL]
theorem idL_succ (n : Nat) : idL (n + 1) = idL n ++ [(n : Int)] := by simp [idL, List.range_succ]
/-- n-1, n-2, .., k numbers. -/
def downL (n k : Nat) : List Int := (List.range k).map fun (j : Nat) => (n : Int) - 1 - (j : Int)
theorem downL_len (n k : Nat) : (downL n k).length = k := by simp [downL]
theorem downL_succ (n k : Nat) : downL n (k + 1) = downL n k ++ [(n : Int) - 1 - (k : Int)] := by simp [downL, List.range_succ]

/-- What IdentityPerm answers. -/
def idPerm (a : Int) : List Int := if 1 ≤ a ∧ a ≤ 7 then idL a.toNat else []
theorem idPerm_small (a : Int) : (idPerm a).length ≤ 1099511627775 := by
  unfold idPerm; split
  · rw [idL_len]; omega
  · simp
def longPerm (a : Int) : List Int := if 1 ≤ a ∧ a ≤ 7 then downL a.toNat a.toNat else []
theorem longPerm_small (a : Int) : (longPerm a).length ≤ 1099511627775 := by
  unfold longPerm; split
  · rw [downL_len]; omega
  · simp
end Go.Proofs.Ythinbmjcdcmioaa

/-
  Contracts of the specification's functions: products, inverses. Conditions: lengths below 2^40.
-/

namespace Go.Proofs.Ythinbmjcdcmioaa
open Go.RowKit

/-- The first k numbers of a product. -/
def compL (u v : List Int) (k : Nat) : List Int := (List.range k).map fun i => nth u (nth v i).toNat
theorem compL_len (u v : List Int) (k : Nat) : (compL u v k).length = k := by simp [compL]
theorem compL_succ (u v : List Int) (k : Nat) : compL u v (k + 1) = compL u v k ++ [nth u (nth v k).toNat] := by simp [compL, List.range_succ]

/-- What ComposePerms answers. -/
def compPerm (us vs : List Int) : List Int := if isPermB us = true ∧ isPermB vs = true ∧ us.length = vs.length then compL us vs vs.length else []

theorem Fresh.nil_ret {w w' : World} (h : Below w.heap.size w w') : Fresh w w' (.returned (.slice none 0 0)) [] := ⟨none, 0, 0, rfl, Own.nil _ _ _, h⟩
theorem Fresh.after {w w1 w2 : World} {e : Ending} {ys : List Int} (hb : Below w.heap.size w w1) (h : Fresh w1 w2 e ys) : Fresh w w2 e ys := by
  obtain ⟨A, n, c, he, ho, hb2⟩ := h
  exact ⟨A, n, c, he, ho.wide hb.size (Nat.le_refl _), hb.trans (hb2.mono hb.size)⟩

theorem compPerm_no {us vs : List Int} (h : isPermB us = false ∨ isPermB vs = false ∨ us.length ≠ vs.length) : compPerm us vs = [] := by
  unfold compPerm
  rw [if_neg]
  rintro ⟨h1, h2, h3⟩
  rcases h with h | h | h
  · rw [h1] at h; cases h
  · rw [h2] at h; cases h
  · exact h h3
theorem compPerm_yes {us vs : List Int} (h1 : isPermB us = true) (h2 : isPermB vs = true) (h3 : us.length = vs.length) : compPerm us vs = compL us vs vs.length := by
  unfold compPerm
  rw [if_pos ⟨h1, h2, h3⟩]
theorem isPermB_small {xs : List Int} (h : isPermB xs = true) : xs.length ≤ 1099511627775 := by have := (isPermB_P h).2.1; omega
theorem compPerm_small (us vs : List Int) : (compPerm us vs).length ≤ 1099511627775 := by
  unfold compPerm
  split
  · rename_i h
    rw [compL_len]; exact isPermB_small h.2.1
  · simp
/-- The inverse, k places filled. -/
def invM (xs : List Int) (n k : Nat) : List Int := (List.range k).foldl (fun acc i => acc.set (nth xs i).toNat (i : Int)) (List.replicate n 0)
theorem invM_succ (xs : List Int) (n k : Nat) : invM xs n (k + 1) = (invM xs n k).set (nth xs k).toNat (k : Int) := by simp [invM, List.range_succ]
theorem invM_len (xs : List Int) (n k : Nat) : (invM xs n k).length = n := by
  induction k with
  | zero => simp [invM]
  | succ k ih => rw [invM_succ]; simpa using ih

/-- What InversePerm answers. -/
def invPerm (xs : List Int) : List Int := if isPermB xs = true then invM xs xs.length xs.length else []
theorem invPerm_no {xs : List Int} (h : isPermB xs = false) : invPerm xs = [] := by unfold invPerm; rw [if_neg (by rw [h]; decide)]
theorem invPerm_yes {xs : List Int} (h : isPermB xs = true) : invPerm xs = invM xs xs.length xs.length := by unfold invPerm; rw [if_pos h]
theorem invPerm_small (xs : List Int) : (invPerm xs).length ≤ 1099511627775 := by
  unfold invPerm
  split
  · rename_i h
    rw [invM_len]; exact isPermB_small h
  · simp
end Go.Proofs.Ythinbmjcdcmioaa

/-
  Contracts of the specification's codes, lengths and descents. Conditions: lengths below 2^40.
-/

namespace Go.Proofs.Ythinbmjcdcmioaa
open Go.RowKit

/-- How many of the places behind i and before j have a smaller number. -/
def codeCnt (xs : List Int) (i : Nat) : Nat → Nat
  | 0 => 0
  | j + 1 => codeCnt xs i j + if i < j ∧ nth xs j < nth xs i then 1 else 0
theorem codeCnt_le (xs : List Int) (i j : Nat) : codeCnt xs i j ≤ j := by
  induction j with
  | zero => exact Nat.le_refl _
  | succ j ih => unfold codeCnt; split <;> omega
theorem codeCnt_low (xs : List Int) (i j : Nat) (h : j ≤ i + 1) : codeCnt xs i j = 0 := by
  induction j with
  | zero => rfl
  | succ j ih => unfold codeCnt; rw [ih (by omega), if_neg (by omega)]
theorem codeCnt_hit {xs : List Int} {i j : Nat} (h : i < j) (hx : nth xs j < nth xs i) : codeCnt xs i (j + 1) = codeCnt xs i j + 1 := by
  show codeCnt xs i j + (if i < j ∧ nth xs j < nth xs i then 1 else 0) = _
  rw [if_pos ⟨h, hx⟩]
theorem codeCnt_miss {xs : List Int} {i j : Nat} (hx : ¬ nth xs j < nth xs i) : codeCnt xs i (j + 1) = codeCnt xs i j := by
  show codeCnt xs i j + (if i < j ∧ nth xs j < nth xs i then 1 else 0) = _
  rw [if_neg (fun h => hx h.2)]; rfl
/-- The code, k places filled. -/
def codeL (xs : List Int) (n k : Nat) : List Int := (List.range n).map fun i => if i < k then (codeCnt xs i n : Int) else 0
theorem codeL_len (xs : List Int) (n k : Nat) : (codeL xs n k).length = n := by simp [codeL]
theorem codeL_nth (xs : List Int) (n k i : Nat) (h : i < n) : nth (codeL xs n k) i = if i < k then (codeCnt xs i n : Int) else 0 := by
  rw [nth_get (by rw [codeL_len]; exact h)]; simp [codeL]
theorem codeL_zero (xs : List Int) (n : Nat) : codeL xs n 0 = List.replicate n 0 := by
  apply List.ext_getElem (by simp [codeL])
  intro j h1 h2; simp [codeL]
theorem codeL_set0 (xs : List Int) (n k : Nat) (_h : k < n) : (codeL xs n k).set k 0 = codeL xs n k := by
  apply List.ext_getElem (by simp)
  intro j h1 h2
  rw [List.getElem_set]
  split
  · rename_i e; subst e; simp [codeL]
  · rfl
theorem codeL_set (xs : List Int) (n k : Nat) (_h : k < n) : (codeL xs n k).set k (codeCnt xs k n : Int) = codeL xs n (k + 1) := by
  apply List.ext_getElem (by simp [codeL])
  intro j h1 h2
  rw [List.getElem_set]
  simp only [codeL, List.getElem_map, List.getElem_range]
  by_cases e : k = j
  · subst e; simp
  · rw [if_neg e]
    by_cases h3 : j < k
    · rw [if_pos h3, if_pos (by omega)]
    · rw [if_neg h3, if_neg (by omega)]

/-- The sum of the first k numbers. -/
def sumN (xs : List Int) : Nat → Int
  | 0 => 0
  | k + 1 => sumN xs k + nth xs k
set_option maxHeartbeats 400000 in
theorem l1Sum_any (A : Option Addr) (n c : Nat) (xs : List Int) (w : World) (hs : SI w A n xs) (hn : n ≤ 1099511627776) (hb : ∀ k, k ≤ n → -1099511627776 ≤ sumN xs k ∧ sumN xs k ≤ 1099511627776) :
    Calls Try.prog 75 #[.slice A n c] w fun e w' => e = .returned (.int .i64 (sumN xs n)) ∧ Drawn w w' := by
  have HBd := Lib.hid hb
  clear hb
  go_enter Try.func75, Try.ntmps75
  go_wp2
  go_loopw [3, 4] (fun v i wr => ∃ k : Nat, k ≤ n ∧ i = .int .i64 k ∧ v = .int .i64 (sumN xs k) ∧ Drawn w wr)
    (fun _ i _ => n - (intOf i).toNat)
  case atStart => exact ⟨0, Nat.zero_le _, rfl, rfl, Drawn.refl _⟩
  case round =>
    obtain ⟨k, hk, rfl, rfl, hD⟩ := hrel
    have hs := hD.si hs
    have HD := Lib.hid hD
    clear hD
    by_cases hlt : k < n
    · obtain ⟨b, o, rfl, hb, hc⟩ := hs.at_ (by omega)
      have hc1 := hc k hlt
      obtain ⟨x, hx⟩ : ∃ x, x = nth xs k := ⟨_, rfl⟩
      obtain ⟨y, hy⟩ : ∃ y, y = sumN xs k := ⟨_, rfl⟩
      have h1 := HBd.out k (by omega)
      have h2 := HBd.out (k + 1) (by omega)
      have e : sumN xs (k + 1) = sumN xs k + nth xs k := rfl
      rw [← hx, ← hy] at e
      rw [e] at h2
      rw [← hy] at h1 ⊢
      rw [← hx] at hc1
      obtain ⟨h21, h22⟩ := h2
      have HE := Lib.hid e
      clear hc hs hx hy e
      go_wp2
      go_roundw
      case rel => exact ⟨k + 1, by omega, by go_num, by rw [HE.out], HD.out⟩
      case measure => simp [intOf]; omega
    · have hkn : k = n := by omega
      subst hkn
      go_wp2
      go_ret
      exact ⟨rfl, HD.out⟩

theorem sumN_code (xs : List Int) (n : Nat) (h7 : n ≤ 7) : ∀ k, k ≤ n → 0 ≤ sumN (codeL xs n n) k ∧ sumN (codeL xs n n) k ≤ 7 * (k : Int) := by
  intro k
  induction k with
  | zero => intro _; exact ⟨Int.le_refl _, by simp [sumN]⟩
  | succ k ih =>
    intro hk
    obtain ⟨h1, h2⟩ := ih (by omega)
    have e : sumN (codeL xs n n) (k + 1) = sumN (codeL xs n n) k + nth (codeL xs n n) k := rfl
    rw [e, codeL_nth _ _ _ _ (by omega), if_pos (by omega)]
    have := codeCnt_le xs k n
    omega
/-- The length of a permutation, by its code. -/
def lenL (xs : List Int) : Int := sumN (codeL xs xs.length xs.length) xs.length
theorem lenL_bounds {xs : List Int} (h7 : xs.length ≤ 7) : 0 ≤ lenL xs ∧ lenL xs ≤ 49 := by
  have := sumN_code xs xs.length h7 xs.length (Nat.le_refl _)
  unfold lenL
  omega
/-- What LengthOf answers. -/
def lenPerm (xs : List Int) : Int := if isPermB xs = true then lenL xs else -1
theorem lenPerm_no {xs : List Int} (h : isPermB xs = false) : lenPerm xs = -1 := by unfold lenPerm; rw [if_neg (by rw [h]; decide)]
theorem lenPerm_yes {xs : List Int} (h : isPermB xs = true) : lenPerm xs = lenL xs := by unfold lenPerm; rw [if_pos h]
/-- What CodeOf answers. -/
def codePerm (xs : List Int) : List Int := if isPermB xs = true then codeL xs xs.length xs.length else []
theorem codePerm_no {xs : List Int} (h : isPermB xs = false) : codePerm xs = [] := by unfold codePerm; rw [if_neg (by rw [h]; decide)]
theorem codePerm_yes {xs : List Int} (h : isPermB xs = true) : codePerm xs = codeL xs xs.length xs.length := by unfold codePerm; rw [if_pos h]
theorem codePerm_small (xs : List Int) : (codePerm xs).length ≤ 1099511627775 := by
  unfold codePerm
  split
  · rename_i h
    rw [codeL_len]; exact isPermB_small h
  · simp
/-- The descents among the first k places. -/
def descL (xs : List Int) : Nat → List Int
  | 0 => []
  | k + 1 => if nth xs (k + 1) < nth xs k then descL xs k ++ [(k : Int)] else descL xs k
theorem descL_len (xs : List Int) (k : Nat) : (descL xs k).length ≤ k := by
  induction k with
  | zero => exact Nat.le_refl _
  | succ k ih =>
    unfold descL
    split
    · simp; omega
    · omega
theorem descL_hit {xs : List Int} {k : Nat} (h : nth xs (k + 1) < nth xs k) : descL xs (k + 1) = descL xs k ++ [(k : Int)] := by
  show (if nth xs (k + 1) < nth xs k then descL xs k ++ [(k : Int)] else descL xs k) = _
  rw [if_pos h]
theorem descL_miss {xs : List Int} {k : Nat} (h : ¬ nth xs (k + 1) < nth xs k) : descL xs (k + 1) = descL xs k := by
  show (if nth xs (k + 1) < nth xs k then descL xs k ++ [(k : Int)] else descL xs k) = _
  rw [if_neg h]
def descPerm (xs : List Int) : List Int := if isPermB xs = true then descL xs (xs.length - 1) else []
theorem descPerm_no {xs : List Int} (h : isPermB xs = false) : descPerm xs = [] := by unfold descPerm; rw [if_neg (by rw [h]; decide)]
theorem descPerm_yes {xs : List Int} (h : isPermB xs = true) : descPerm xs = descL xs (xs.length - 1) := by unfold descPerm; rw [if_pos h]
theorem descPerm_small (xs : List Int) : (descPerm xs).length ≤ 1099511627775 := by
  unfold descPerm
  split
  · rename_i h
    have := descL_len xs (xs.length - 1)
    have := isPermB_small h
    omega
  · simp
set_option maxHeartbeats 800000 in
theorem specDescents_any (A : Option Addr) (n c : Nat) (xs : List Int) (w : World) (hs : SI w A n xs) (hnc : n ≤ c) (hn : n ≤ 1099511627776) :
    Calls Try.prog 67 #[.slice A n c] w fun e w' => Fresh w w' e (descPerm xs) := by
  have hl := hs.1
  cases hu : isPermB xs with
  | false =>
    have HE := Lib.hid (descPerm_no hu)
    have HU := Lib.hid hu
    clear hu
    go_enter Try.func67, Try.ntmps67
    go_wp2_with fail
    refine (specIsPerm_is c HU.out hs hnc hn).mono ?_
    rintro e w1 ⟨rfl, hd1⟩
    go_wp2
    go_ret
    rw [HE.out]
    exact Fresh.nil_ret (hd1.below _)
  | true =>
    have HE := Lib.hid (descPerm_yes hu)
    have HU := Lib.hid hu
    have hpos : 1 ≤ n := by have := (isPermB_P hu).1; omega
    have HL := Lib.hid hl
    clear hu hl
    go_enter Try.func67, Try.ntmps67
    go_wp2_with fail
    refine (specIsPerm_is c HU.out hs hnc hn).mono ?_
    rintro e w1 ⟨rfl, hd1⟩
    have hs1 := hd1.si hs
    have HD := Lib.hid hd1
    clear hs hd1
    go_wp2
    go_loopw [3, 4] (fun v i wr => ∃ (k m : Nat) (A : Option Addr) (c : Nat), k + 1 ≤ n ∧ i = .int .i64 k ∧ v = .slice A m c ∧ Own wr w1.heap.size wr.heap.size A m c (descL xs k) ∧ Below w1.heap.size w1 wr)
      (fun _ i _ => n - (intOf i).toNat)
    case atStart => exact ⟨0, 0, _, _, by omega, rfl, rfl, (Own.empty w1).wide (Nat.le_refl _) (by simp), Below.alloc_self _ _⟩
    case round =>
      obtain ⟨k, m, A0, c0, hk, rfl, rfl, hown, hbel⟩ := hrel
      have HO := Lib.hid hown
      have HB := Lib.hid hbel
      have hm : m ≤ 1099511627775 := by
        have h1 := HO.out.len
        have h2 := descL_len xs k
        have := (isPermB_P HU.out).2.1
        have := HL.out
        omega
      by_cases hlt : k + 1 < n
      · obtain ⟨b, o, e1, hb, hc⟩ := (hs1.below hbel (Nat.le_refl _)).at_ (by omega)
        have hck := hc k (by omega)
        have hck1 := hc (k + 1) hlt
        obtain ⟨x, hx⟩ : ∃ x, x = nth xs k := ⟨_, rfl⟩
        obtain ⟨y, hy⟩ : ∃ y, y = nth xs (k + 1) := ⟨_, rfl⟩
        rw [← hx] at hck
        rw [← hy] at hck1
        have HX := Lib.hid hx
        have HY := Lib.hid hy
        subst e1
        clear hc hx hy hs1 hown hbel
        have hlI : (k : Int) < (n : Int) := by omega
        have hlI1 : (k : Int) + 1 < (n : Int) := by omega
        have hw1 : IntKind.i64.wrap ((k : Int) + 1) = (k : Int) + 1 := IntWalk.i64_in _ (by omega)
        have hn1 : ((k : Int) + 1).toNat = k + 1 := by omega
        have h01 : (0 : Int) ≤ (k : Int) + 1 := by omega
        by_cases hxy : y < x
        · go_wp2_with fail
          go_quiet (fail)
          clear hw1 hn1 h01
          go_wp2_with (at_builtin; refine wpList_append1 rfl (.tmp 26) (.tmp 28) rfl w1.heap.size A0 m c0 (descL xs k) (k : Int) rfl rfl (HO.out.drawn ⟨_, rfl⟩) HB.out.size (by omega) ?_; intro A' c' w3 ho3 _ hb3)
          go_roundw
          case rel =>
            have e1 := HX.out
            have e2 := HY.out
            exact ⟨k + 1, _, _, _, by omega, by go_num, rfl, by rw [descL_hit (by omega)]; exact ho3, (HB.out.drawnN _).trans hb3⟩
          case measure => simp [intOf]; omega
        · go_wp2_with fail
          go_quiet (fail)
          clear hw1 hn1 h01
          go_wp2
          go_roundw
          case rel =>
            have e1 := HX.out
            have e2 := HY.out
            exact ⟨k + 1, _, _, _, by omega, by go_num, rfl, by rw [descL_miss (by omega)]; exact HO.out.drawn ⟨_, rfl⟩, HB.out.drawnN _⟩
          case measure => simp [intOf]; omega
      · have hkn : n = k + 1 := by omega
        subst hkn
        clear hown hbel hs1
        go_wp2
        go_ret
        rw [HE.out, HL.out, Nat.add_sub_cancel]
        exact Fresh.after (HD.out.below _) ⟨A0, _, c0, rfl, HO.out, HB.out⟩
end Go.Proofs.Ythinbmjcdcmioaa

/-
  Terms and polynomials as lists: keys, their order, when a list of terms is a polynomial. Plain lemmas. No conditions.
-/

namespace Go.Proofs.Ythinbmjcdcmioaa
open Go.RowKit

/-- A term: its exponents and its number. -/
abbrev Tm := List Int × Int
def tm (ts : List Tm) (k : Nat) : Tm := ts.getD k ([], 0)
theorem tm_get {ts : List Tm} {k : Nat} (h : k < ts.length) : tm ts k = ts[k] := by simp [tm, List.getD, h]
theorem tm_get? {ts : List Tm} {k : Nat} (h : k < ts.length) : ts[k]? = some (tm ts k) := by simp [tm, List.getD, h]
theorem take_tm {ts : List Tm} {k : Nat} (h : k < ts.length) : ts.take (k + 1) = ts.take k ++ [tm ts k] := by
  rw [List.take_succ_eq_append_getElem h, tm_get h]
theorem tm_app_lt {ts us : List Tm} {k : Nat} (h : k < ts.length) : tm (ts ++ us) k = tm ts k := by simp [tm, List.getD, List.getElem?_append, h]
theorem tm_app_at {ts : List Tm} {t : Tm} : tm (ts ++ [t]) ts.length = t := by simp [tm, List.getD]
theorem tm_ext {ts us : List Tm} (hl : ts.length = us.length) (h : ∀ j, j < ts.length → tm ts j = tm us j) : ts = us := by
  apply List.ext_getElem hl
  intro j h1 h2
  have := h j h1
  rwa [tm_get h1, tm_get h2] at this

/-- The key of exponents: seven bits for each, the last in front. -/
def key7 (e : List Int) : Int := e.foldr (fun x k => k * 128 + x) 0
theorem key7_drop {e : List Int} {i : Nat} (h : i < e.length) : key7 (e.drop i) = key7 (e.drop (i + 1)) * 128 + nth e i := by
  rw [List.drop_eq_getElem_cons h, nth_get h]; rfl
/-- All exponents are from 0 to 24. -/
def smallE (e : List Int) : Bool := e.all fun x => decide (0 ≤ x ∧ x ≤ 24)
theorem smallE_nth {e : List Int} (h : smallE e = true) {k : Nat} (hk : k < e.length) : 0 ≤ nth e k ∧ nth e k ≤ 24 := by
  rw [nth_get hk]
  have := List.all_eq_true.1 h _ (List.getElem_mem hk)
  simpa using this
theorem smallE_all {e : List Int} (h : ∀ k, k < e.length → 0 ≤ nth e k ∧ nth e k ≤ 24) : smallE e = true := by
  apply List.all_eq_true.2
  intro x hx
  obtain ⟨k, hk, rfl⟩ := List.getElem_of_mem hx
  have := h k hk
  rw [nth_get hk] at this
  simpa using this
theorem smallE_no {e : List Int} {k : Nat} (hk : k < e.length) (h : nth e k < 0 ∨ 24 < nth e k) : smallE e = false := by
  cases hb : smallE e with
  | false => rfl
  | true => have := smallE_nth hb hk; omega
theorem key7_bound : ∀ (e : List Int), (∀ k, k < e.length → 0 ≤ nth e k ∧ nth e k ≤ 24) → 0 ≤ key7 e ∧ key7 e < 128 ^ e.length
  | [], _ => by simp [key7]
  | x :: e, h => by
    have ih := key7_bound e (fun k hk => by have := h (k + 1) (by simp; omega); simpa [nth] using this)
    have h0 := h 0 (by simp)
    have h1 : nth (x :: e) 0 = x := by simp [nth]
    rw [h1] at h0
    have e1 : key7 (x :: e) = key7 e * 128 + x := rfl
    rw [e1, List.length_cons, Int.pow_succ]
    omega
theorem key7_lt : ∀ (a b : List Int) (i : Nat), a.length = b.length → (∀ k, k < a.length → 0 ≤ nth a k ∧ nth a k ≤ 127) → (∀ k, k < b.length → 0 ≤ nth b k ∧ nth b k ≤ 127) → i < a.length →
    (∀ j, i < j → j < a.length → nth a j = nth b j) → nth a i < nth b i → key7 a < key7 b
  | [], _, i, _, _, _, hi, _, _ => absurd hi (by simp)
  | x :: a, [], i, hl, _, _, _, _, _ => absurd hl (by simp)
  | x :: a, y :: b, 0, hl, ha, hb, hi, he, hx => by
    have e1 : key7 (x :: a) = key7 a * 128 + x := rfl
    have e2 : key7 (y :: b) = key7 b * 128 + y := rfl
    have e3 : a = b := by
      apply List.ext_getElem (by simpa using hl)
      intro j h1 h2
      have := he (j + 1) (by omega) (by simp; omega)
      simpa [nth, h1, h2] using this
    have h0 : x < y := by simpa [nth] using hx
    rw [e1, e2, e3]
    omega
  | x :: a, y :: b, i + 1, hl, ha, hb, hi, he, hx => by
    have e1 : key7 (x :: a) = key7 a * 128 + x := rfl
    have e2 : key7 (y :: b) = key7 b * 128 + y := rfl
    have ih := key7_lt a b i (by simpa using hl) (fun k hk => by have := ha (k + 1) (by simp; omega); simpa [nth] using this) (fun k hk => by have := hb (k + 1) (by simp; omega); simpa [nth] using this) (by simpa using hi)
      (fun j h1 h2 => by have := he (j + 1) (by omega) (by simp; omega); simpa [nth] using this) (by simpa [nth] using hx)
    have ha0 := ha 0 (by simp)
    have hb0 := hb 0 (by simp)
    have h1 : nth (x :: a) 0 = x := by simp [nth]
    have h2 : nth (y :: b) 0 = y := by simp [nth]
    rw [h1] at ha0
    rw [h2] at hb0
    rw [e1, e2]
    omega

/-- A term with seven exponents from 0 to 24 and a number other than 0 of at most a million. -/
def goodT (t : Tm) : Bool := decide (t.1.length = 7) && smallE t.1 && decide (t.2 ≠ 0 ∧ -1000000 ≤ t.2 ∧ t.2 ≤ 1000000)
theorem goodT_iff (t : Tm) : goodT t = true ↔ t.1.length = 7 ∧ smallE t.1 = true ∧ t.2 ≠ 0 ∧ -1000000 ≤ t.2 ∧ t.2 ≤ 1000000 := by
  simp [goodT, and_assoc]
theorem goodT_no {t : Tm} (h : ¬ (t.1.length = 7 ∧ smallE t.1 = true ∧ t.2 ≠ 0 ∧ -1000000 ≤ t.2 ∧ t.2 ≤ 1000000)) : goodT t = false := by
  cases hb : goodT t with
  | false => rfl
  | true => exact absurd ((goodT_iff t).1 hb) h
/-- Term k is good and stands behind the one ahead of it. -/
def okAt (ts : List Tm) (k : Nat) : Bool := goodT (tm ts k) && (decide (k = 0) || decide (key7 (tm ts k).1 < key7 (tm ts (k - 1)).1))
def polyB (ts : List Tm) : Bool := decide (ts.length ≤ 600) && (List.range ts.length).all fun k => okAt ts k
theorem polyB_big {ts : List Tm} (h : 600 < ts.length) : polyB ts = false := by simp [polyB]; omega
theorem polyB_all {ts : List Tm} (h : ts.length ≤ 600) (hk : ∀ k, k < ts.length → okAt ts k = true) : polyB ts = true := by
  simp only [polyB, Bool.and_eq_true, decide_eq_true_eq, List.all_eq_true, List.mem_range]
  exact ⟨h, hk⟩
theorem polyB_len {ts : List Tm} (h : polyB ts = true) : ts.length ≤ 600 := by
  simp only [polyB, Bool.and_eq_true, decide_eq_true_eq] at h
  exact h.1
theorem polyB_ok {ts : List Tm} (h : polyB ts = true) {k : Nat} (hk : k < ts.length) : okAt ts k = true := by
  simp only [polyB, Bool.and_eq_true, decide_eq_true_eq, List.all_eq_true, List.mem_range] at h
  exact h.2 k hk
theorem polyB_good {ts : List Tm} (h : polyB ts = true) {k : Nat} (hk : k < ts.length) : goodT (tm ts k) = true := by
  have := polyB_ok h hk
  simp only [okAt, Bool.and_eq_true] at this
  exact this.1
theorem polyB_no {ts : List Tm} {k : Nat} (hk : k < ts.length) (h : okAt ts k = false) : polyB ts = false := by
  cases hb : polyB ts with
  | false => rfl
  | true => have := polyB_ok hb hk; rw [h] at this; cases this
theorem okAt_good {ts : List Tm} {k : Nat} (h : okAt ts k = true) : goodT (tm ts k) = true := by
  simp only [okAt, Bool.and_eq_true] at h
  exact h.1
theorem okAt_bad {ts : List Tm} {k : Nat} (h : goodT (tm ts k) = false) : okAt ts k = false := by simp [okAt, h]
theorem okAt_zero {ts : List Tm} (h : goodT (tm ts 0) = true) : okAt ts 0 = true := by simp [okAt, h]
theorem okAt_step {ts : List Tm} {k : Nat} (h : goodT (tm ts k) = true) (hk : key7 (tm ts k).1 < key7 (tm ts (k - 1)).1) : okAt ts k = true := by simp [okAt, h, hk]
theorem okAt_wrong {ts : List Tm} {k : Nat} (h0 : 0 < k) (hk : ¬ key7 (tm ts k).1 < key7 (tm ts (k - 1)).1) : okAt ts k = false := by
  have : k ≠ 0 := by omega
  simp [okAt, hk, this]
end Go.Proofs.Ythinbmjcdcmioaa

/-
  Slices of terms in memory: how they read, and slices of terms that a call owns. Plain lemmas. No conditions.
-/


namespace Go.Proofs.Ythinbmjcdcmioaa
open Go.RowKit

/-- The slice (A, n) reads as the terms ts. -/
def TS (w : World) (A : Option Addr) (n : Nat) (ts : List Tm) : Prop :=
  ts.length = n ∧ (0 < n → ∃ b o, A = some ⟨b, o, none⟩ ∧ b < w.heap.size ∧ ∀ k, k < n → ∃ A' n' c', w.cell? ⟨b, o + k * 2, none⟩ = some (.slice A' n' c') ∧
    w.cell? ⟨b, o + k * 2 + 1, none⟩ = some (.int .i64 (tm ts k).2) ∧ SI w A' n' (tm ts k).1 ∧ n' ≤ c' ∧ (A' = none → n' = 0 ∧ c' = 0))
section
variable {w w' : World} {A : Option Addr} {n : Nat} {ts : List Tm}
theorem TS.nil (w : World) (A : Option Addr) : TS w A 0 [] := ⟨rfl, fun h => absurd h (by omega)⟩
theorem TS.at_ (h : TS w A n ts) {k : Nat} (hk : k < n) : ∃ b o A' n' c', A = some ⟨b, o, none⟩ ∧ b < w.heap.size ∧ w.cell? ⟨b, o + k * 2, none⟩ = some (.slice A' n' c') ∧
    w.cell? ⟨b, o + k * 2 + 1, none⟩ = some (.int .i64 (tm ts k).2) ∧ SI w A' n' (tm ts k).1 ∧ n' ≤ c' ∧ (A' = none → n' = 0 ∧ c' = 0) := by
  obtain ⟨b, o, e, hb, hc⟩ := h.2 (by omega)
  obtain ⟨A', n', c', h1⟩ := hc k hk
  exact ⟨b, o, A', n', c', e, hb, h1⟩
theorem TS.below {B : Nat} (h : TS w A n ts) (hb : Below B w w') (hB : w.heap.size ≤ B) : TS w' A n ts :=
  ⟨h.1, fun hn => by
    obtain ⟨b, o, e, hl, hc⟩ := h.2 hn
    have hs := hb.size
    refine ⟨b, o, e, by omega, fun k hk => ?_⟩
    obtain ⟨A', n', c', h1, h2, h3, h4⟩ := hc k hk
    exact ⟨A', n', c', (hb.cell (p := ⟨b, o + k * 2, none⟩) (by show b < B; omega)).trans h1, (hb.cell (p := ⟨b, o + k * 2 + 1, none⟩) (by show b < B; omega)).trans h2, h3.below hb hB, h4⟩⟩
theorem TS.drewN (h : TS w A n ts) (k : Nat) : TS (w.drewN k) A n ts := h
theorem TS.drawn (h : TS w A n ts) (hd : Drawn w w') : TS w' A n ts := by obtain ⟨m, rfl⟩ := hd; exact h
theorem TS.alloc (h : TS w A n ts) (o : Obj) : TS (w.alloc o) A n ts := h.below ((Below.refl w.heap.size w).alloc (Nat.le_refl _) o) (Nat.le_refl _)
end

/-- A list of pairs of cells. -/
def cells2 (n : Nat) (f : Nat → Value × Value) : List Value := (List.range (n * 2)).map fun j => if j % 2 = 0 then (f (j / 2)).1 else (f (j / 2)).2
theorem cells2_len (n : Nat) (f : Nat → Value × Value) : (cells2 n f).length = n * 2 := by simp [cells2]
theorem cells2_get {n : Nat} (f : Nat → Value × Value) {j : Nat} (h : j < n * 2) : (cells2 n f)[j]? = some (if j % 2 = 0 then (f (j / 2)).1 else (f (j / 2)).2) := by
  simp [cells2, h]
theorem cells2_get0 {n : Nat} (f : Nat → Value × Value) {k : Nat} (h : k < n) : (cells2 n f)[k * 2]? = some (f k).1 := by
  rw [cells2_get f (by omega), if_pos (by omega), show k * 2 / 2 = k by omega]
theorem cells2_get1 {n : Nat} (f : Nat → Value × Value) {k : Nat} (h : k < n) : (cells2 n f)[k * 2 + 1]? = some (f k).2 := by
  rw [cells2_get f (by omega), if_neg (by omega), show (k * 2 + 1) / 2 = k by omega]
theorem cells2_congr {n : Nat} {f g : Nat → Value × Value} (h : ∀ k, k < n → f k = g k) : cells2 n f = cells2 n g := by
  apply List.map_congr_left
  intro j hj
  have := List.mem_range.1 hj
  rw [h (j / 2) (by omega)]
theorem cells2_set0 {n : Nat} (f : Nat → Value × Value) {k : Nat} (_h : k < n) (v : Value) : (cells2 n f).set (k * 2) v = cells2 n (fun j => if j = k then (v, (f j).2) else f j) := by
  apply List.ext_getElem?
  intro j
  by_cases hj : j < n * 2
  · rw [cells2_get _ hj]
    by_cases e : j = k * 2
    · subst e
      rw [List.getElem?_set_self (by rw [cells2_len]; omega), if_pos (by omega), show k * 2 / 2 = k by omega, if_pos rfl]
    · rw [List.getElem?_set_ne (by omega), cells2_get _ hj]
      by_cases e2 : j / 2 = k
      · rw [if_neg (by omega), if_neg (by omega), if_pos e2]
      · rw [if_neg e2]
  · rw [List.getElem?_eq_none (by simp [cells2_len]; omega), List.getElem?_eq_none (by simp [cells2_len]; omega)]
theorem cells2_set1 {n : Nat} (f : Nat → Value × Value) {k : Nat} (_h : k < n) (v : Value) : (cells2 n f).set (k * 2 + 1) v = cells2 n (fun j => if j = k then ((f j).1, v) else f j) := by
  apply List.ext_getElem?
  intro j
  by_cases hj : j < n * 2
  · rw [cells2_get _ hj]
    by_cases e : j = k * 2 + 1
    · subst e
      rw [List.getElem?_set_self (by rw [cells2_len]; omega), if_neg (by omega), show (k * 2 + 1) / 2 = k by omega, if_pos rfl]
    · rw [List.getElem?_set_ne (by omega), cells2_get _ hj]
      by_cases e2 : j / 2 = k
      · rw [if_pos (by omega), if_pos (by omega), if_pos e2]
      · rw [if_neg e2]
  · rw [List.getElem?_eq_none (by simp [cells2_len]; omega), List.getElem?_eq_none (by simp [cells2_len]; omega)]
theorem cells2_app (n : Nat) (f : Nat → Value × Value) (a b : Value) : cells2 n f ++ [a, b] = cells2 (n + 1) (fun j => if j = n then (a, b) else f j) := by
  apply List.ext_getElem?
  intro j
  by_cases hj : j < n * 2
  · rw [List.getElem?_append_left (by rw [cells2_len]; exact hj), cells2_get _ hj, cells2_get _ (by omega), if_neg (show ¬ j / 2 = n by omega)]
  · rw [List.getElem?_append_right (by rw [cells2_len]; omega), cells2_len]
    by_cases h1 : j = n * 2
    · subst h1
      rw [cells2_get _ (by omega), if_pos (by omega), if_pos (by omega)]; simp
    · by_cases h2 : j = n * 2 + 1
      · subst h2
        rw [cells2_get _ (by omega), if_neg (by omega), if_pos (by omega)]; simp
      · rw [List.getElem?_eq_none (by simp; omega), List.getElem?_eq_none (by simp [cells2_len]; omega)]

abbrev Sv := Option Addr × Nat × Nat
def sv (e : Sv) : Value := .slice e.1 e.2.1 e.2.2
section
variable {w w' : World} {lo hi n c : Nat} {A : Option Addr} {ts : List Tm}
theorem Own.nilcap {xs : List Int} (h : Own w lo hi none n c xs) : n = 0 ∧ c = 0 := by
  rcases h.1.2 with ⟨e, h0⟩ | ⟨g, cap, cur, e, _⟩
  · injection e with _ _ e3; exact ⟨h0, e3⟩
  · injection e with e1; cases e1
end
/-- Nothing outside lo .. hi was changed. -/
def Within (lo hi : Nat) (w w' : World) : Prop := w'.os = w.os ∧ w'.tape = w.tape ∧ w'.output = w.output ∧ w.heap.size ≤ w'.heap.size ∧ ∀ k, k < w.heap.size → k < lo ∨ hi ≤ k → w'.heap[k]? = w.heap[k]?
theorem Within.refl (lo hi : Nat) (w : World) : Within lo hi w w := ⟨rfl, rfl, rfl, Nat.le_refl _, fun _ _ _ => rfl⟩
theorem Within.trans {lo hi : Nat} {w w' w'' : World} (h : Within lo hi w w') (h' : Within lo hi w' w'') : Within lo hi w w'' :=
  ⟨h'.1.trans h.1, h'.2.1.trans h.2.1, h'.2.2.1.trans h.2.2.1, Nat.le_trans h.2.2.2.1 h'.2.2.2.1, fun k h0 hk => (h'.2.2.2.2 k (Nat.lt_of_lt_of_le h0 h.2.2.2.1) hk).trans (h.2.2.2.2 k h0 hk)⟩
theorem Within.size {lo hi : Nat} {w w' : World} (h : Within lo hi w w') : w.heap.size ≤ w'.heap.size := h.2.2.2.1
theorem Within.below {lo hi B : Nat} {w w' : World} (h : Within lo hi w w') (hB : B ≤ lo) (hB' : B ≤ w.heap.size) : Below B w w' :=
  ⟨h.1, h.2.1, h.2.2.1, h.2.2.2.1, fun k hk => h.2.2.2.2 k (by omega) (.inl (by omega))⟩
theorem Within.of_grown {lo hi : Nat} {w w' : World} {row : Option Nat} (hg : w.grownBy w' row) (hr : ∀ g, row = some g → lo ≤ g ∧ g < hi) : Within lo hi w w' :=
  ⟨hg.os, hg.tape, hg.output, hg.size, fun k h0 hk => hg.block k h0 (fun e => by have := hr k e.symm; omega)⟩
theorem Within.of_drawn {lo hi : Nat} {w w' : World} (h : Drawn w w') : Within lo hi w w' := by obtain ⟨m, rfl⟩ := h; exact ⟨rfl, rfl, rfl, Nat.le_refl _, fun _ _ _ => rfl⟩
theorem Own.within {w w' : World} {lo hi n c lo' hi' : Nat} {A : Option Addr} {xs : List Int} (h : Own w lo hi A n c xs) (hw : Within lo' hi' w w') (hd : hi ≤ lo' ∨ hi' ≤ lo) : Own w' lo hi A n c xs := by
  refine ⟨⟨h.1.1, ?_⟩, h.2⟩
  rcases h.1.2 with hn | ⟨g, cap, cur, e, hl, hg, rest⟩
  · exact .inl hn
  · have hlt := h.2 g (by rw [e]; rfl)
    have hsz := (h.1.lt g (by rw [e]; rfl)).2
    exact .inr ⟨g, cap, cur, e, hl, (hw.2.2.2.2 g hsz (by omega)).trans hg, rest⟩
theorem Own.kept {w w' : World} {lo hi n c : Nat} {A : Option Addr} {xs : List Int} {row : Option Nat} (h : Own w lo hi A n c xs) (hg : w.grownBy w' row) (hne : ∀ g, (Value.slice A n c).ownBlock = some g → row ≠ some g) : Own w' lo hi A n c xs := by
  refine ⟨h.1.kept hg ?_, h.2⟩
  cases hb : (Value.slice A n c).ownBlock with
  | none => exact .inl rfl
  | some g => exact .inr fun e => hne g hb e.symm
theorem tm_set {ts : List Tm} {k j : Nat} (hk : k < ts.length) (t : Tm) : tm (ts.set k t) j = if j = k then t else tm ts j := by
  unfold tm
  rw [List.getD_eq_getElem?_getD, List.getD_eq_getElem?_getD, List.getElem?_set]
  by_cases e : k = j
  · subst e; simp [hk]
  · rw [if_neg e, if_neg (fun h => e h.symm)]
def zeroT (n : Nat) : List Tm := List.replicate n ([], 0)
theorem zeroT_tm (n k : Nat) : tm (zeroT n) k = ([], 0) := by
  unfold tm zeroT
  by_cases h : k < n
  · simp [List.getD, h]
  · simp [List.getD, h]
end Go.Proofs.Ythinbmjcdcmioaa

/-
  Slices of slices of numbers: as they read, and as a call's own; a list more behind them; marks. Conditions: as each lemma says.
-/


namespace Go.Proofs.Ythinbmjcdcmioaa
open Go.RowKit

def li (ls : List (List Int)) (k : Nat) : List Int := ls.getD k []
theorem li_get {ls : List (List Int)} {k : Nat} (h : k < ls.length) : li ls k = ls[k] := by simp [li, List.getD, h]
theorem li_app_lt {ls us : List (List Int)} {k : Nat} (h : k < ls.length) : li (ls ++ us) k = li ls k := by simp [li, List.getD, List.getElem?_append, h]
theorem li_app_at {ls : List (List Int)} {t : List Int} : li (ls ++ [t]) ls.length = t := by simp [li, List.getD]
theorem li_set {ls : List (List Int)} {k j : Nat} (hk : k < ls.length) (t : List Int) : li (ls.set k t) j = if j = k then t else li ls j := by
  unfold li
  rw [List.getD_eq_getElem?_getD, List.getD_eq_getElem?_getD, List.getElem?_set]
  by_cases e : k = j
  · subst e; simp [hk]
  · rw [if_neg e, if_neg (fun h => e h.symm)]
theorem li_ext {ls us : List (List Int)} (hl : ls.length = us.length) (h : ∀ j, j < ls.length → li ls j = li us j) : ls = us := by
  apply List.ext_getElem hl
  intro j h1 h2
  have := h j h1
  rwa [li_get h1, li_get h2] at this
/-- The slice (A, n, ..) reads as these lists. -/
def LS (w : World) (A : Option Addr) (n : Nat) (ls : List (List Int)) : Prop :=
  ls.length = n ∧ (0 < n → ∃ b o, A = some ⟨b, o, none⟩ ∧ b < w.heap.size ∧ ∀ k, k < n → ∃ A' n' c', w.cell? ⟨b, o + k, none⟩ = some (.slice A' n' c') ∧
    SI w A' n' (li ls k) ∧ n' ≤ c' ∧ (A' = none → n' = 0 ∧ c' = 0))
section
variable {w w' : World} {A : Option Addr} {n : Nat} {ls : List (List Int)}
theorem LS.nil (w : World) (A : Option Addr) : LS w A 0 [] := ⟨rfl, fun h => absurd h (by omega)⟩
theorem LS.at_ (h : LS w A n ls) {k : Nat} (hk : k < n) : ∃ b o A' n' c', A = some ⟨b, o, none⟩ ∧ b < w.heap.size ∧ w.cell? ⟨b, o + k, none⟩ = some (.slice A' n' c') ∧
    SI w A' n' (li ls k) ∧ n' ≤ c' ∧ (A' = none → n' = 0 ∧ c' = 0) := by
  obtain ⟨b, o, e, hb, hc⟩ := h.2 (by omega)
  obtain ⟨A', n', c', h1⟩ := hc k hk
  exact ⟨b, o, A', n', c', e, hb, h1⟩
theorem LS.below {B : Nat} (h : LS w A n ls) (hb : Below B w w') (hB : w.heap.size ≤ B) : LS w' A n ls := by
  refine ⟨h.1, fun hn => ?_⟩
  obtain ⟨b, o, e, hlt, hc⟩ := h.2 hn
  have hsz := hb.size
  refine ⟨b, o, e, by omega, fun k hk => ?_⟩
  obtain ⟨A', n', c', h1, h2, h3⟩ := hc k hk
  exact ⟨A', n', c', by rw [Below.cell hb (p := ⟨b, o + k, none⟩) (by show b < B; omega)]; exact h1, h2.below hb hB, h3⟩
theorem LS.drawn (h : LS w A n ls) (hd : Drawn w w') : LS w' A n ls := by obtain ⟨m, rfl⟩ := hd; exact h
end
/-- The cells of n lists. -/
def heads (n : Nat) (E : Nat → Sv) : List Value := (List.range n).map fun k => sv (E k)
theorem heads_len (n : Nat) (E : Nat → Sv) : (heads n E).length = n := by simp [heads]
theorem heads_get {n : Nat} (E : Nat → Sv) {k : Nat} (h : k < n) : (heads n E)[k]? = some (sv (E k)) := by simp [heads, h]
theorem heads_congr {n : Nat} {E F : Nat → Sv} (h : ∀ k, k < n → E k = F k) : heads n E = heads n F := by
  unfold heads
  apply List.map_congr_left
  intro k hk
  rw [h k (List.mem_range.1 hk)]
theorem heads_app (n : Nat) (E : Nat → Sv) (a : Sv) : heads n E ++ [sv a] = heads (n + 1) (fun j => if j = n then a else E j) := by
  unfold heads
  rw [List.range_succ, List.map_append]
  congr 1
  · apply List.map_congr_left
    intro k hk
    have := List.mem_range.1 hk
    show sv (E k) = sv (if k = n then a else E k)
    rw [if_neg (by omega)]
  · simp
theorem heads_set {n : Nat} (E : Nat → Sv) {k : Nat} (_h : k < n) (a : Sv) : (heads n E).set k (sv a) = heads n (fun j => if j = k then a else E j) := by
  apply List.ext_getElem?
  intro j
  rw [List.getElem?_set]
  by_cases hj : j < n
  · by_cases e : k = j
    · subst e; rw [if_pos rfl, heads_len, if_pos hj, heads_get _ hj, if_pos rfl]
    · rw [if_neg e, heads_get _ hj, heads_get _ hj, if_neg (fun h => e h.symm)]
  · have h1 : (heads n E)[j]? = none := List.getElem?_eq_none (by rw [heads_len]; omega)
    have h2 : (heads n (fun j => if j = k then a else E j))[j]? = none := List.getElem?_eq_none (by rw [heads_len]; omega)
    rw [h1, h2]
    by_cases e : k = j
    · subst e; rw [if_pos rfl, heads_len, if_neg hj]
    · rw [if_neg e]
/-- The blocks of the lists named. -/
def OwnLE (E : Nat → Sv) (w : World) (lo hi : Nat) (A : Option Addr) (n c : Nat) (ls : List (List Int)) : Prop :=
  ls.length = n ∧ w.ownsRow lo 22 1 (.slice A n c) n (heads n E) ∧ (∀ k, (Value.slice A n c).ownBlock = some k → k < hi) ∧
    (∀ j, j < n → Own w lo hi (E j).1 (E j).2.1 (E j).2.2 (li ls j)) ∧ (∀ j g, j < n → (sv (E j)).ownBlock = some g → (Value.slice A n c).ownBlock ≠ some g) ∧
    (∀ i j g, i < j → j < n → (sv (E i)).ownBlock = some g → (sv (E j)).ownBlock ≠ some g)
/-- The slice (A, n, c) holds these lists: its block, and a block a list, all the call's own between lo and hi, no two of them one. -/
def OwnL (w : World) (lo hi : Nat) (A : Option Addr) (n c : Nat) (ls : List (List Int)) : Prop := ∃ E, OwnLE E w lo hi A n c ls
section
variable {w w' : World} {lo hi n c : Nat} {A : Option Addr} {ls : List (List Int)} {E : Nat → Sv}
theorem OwnL.len (h : OwnL w lo hi A n c ls) : ls.length = n := by obtain ⟨_, h1, _⟩ := h; exact h1
theorem OwnL.nil (w : World) (lo hi : Nat) : OwnL w lo hi none 0 0 [] :=
  ⟨fun _ => (none, 0, 0), rfl, by simpa [heads] using World.ownsRow_nil _ _ _ _, fun k hk => by simp [Value.ownBlock] at hk, fun j hj => absurd hj (by omega), fun j g hj => absurd hj (by omega), fun i j g _ hj => absurd hj (by omega)⟩
theorem OwnL.empty (w : World) : OwnL (w.alloc (.cells #[] 22)) w.heap.size (w.heap.size + 1) (some ⟨w.heap.size, 0, none⟩) 0 0 [] :=
  ⟨fun _ => (none, 0, 0), rfl, World.ownsRow_lit w #[] 0 (Nat.le_refl _) (Nat.zero_le _) rfl, fun k hk => by simp [Value.ownBlock] at hk; omega, fun j hj => absurd hj (by omega), fun j g hj => absurd hj (by omega), fun i j g _ hj => absurd hj (by omega)⟩
theorem OwnL.place (h : OwnL w lo hi A n c ls) (hn : 0 < n) : ∃ g, A = some ⟨g, 0, none⟩ ∧ lo ≤ g ∧ g < hi := by
  obtain ⟨E, _, ho, hh, _⟩ := h
  obtain ⟨g, cap, e, h1, _⟩ := ho.form hn
  have hA : A = some ⟨g, 0, none⟩ := by injection e
  subst hA
  exact ⟨g, rfl, h1, hh g rfl⟩
theorem Own.nilcapL {xs : List Int} (h : Own w lo hi none n c xs) : n = 0 ∧ c = 0 := by
  rcases h.1.2 with ⟨e, h0⟩ | ⟨g, cap, cur, e, _⟩
  · injection e with _ _ e3; exact ⟨h0, e3⟩
  · injection e with e1; cases e1
theorem OwnL.si (h : OwnL w lo hi A n c ls) : LS w A n ls := by
  refine ⟨h.len, fun hn => ?_⟩
  obtain ⟨g, rfl, _, _⟩ := h.place hn
  obtain ⟨E, hl, ho, hh, he, _⟩ := h
  refine ⟨g, 0, rfl, ?_, fun k hk => ?_⟩
  · obtain ⟨g', cap, e, _, h2⟩ := ho.form hn
    injection e with e1; injection e1 with e1; injection e1 with e1
    subst e1; exact h2
  · refine ⟨(E k).1, (E k).2.1, (E k).2.2, ?_, (he k hk).si, (he k hk).cap, ?_⟩
    · rw [Nat.zero_add, ho.cellAt k (by omega), heads_get _ hk]; rfl
    · intro e
      have := he k hk
      rw [e] at this
      exact this.nilcapL
theorem OwnLE.below {B : Nat} (h : OwnLE E w lo hi A n c ls) (hb : Below B w w') (hB : hi ≤ B) : OwnLE E w' lo hi A n c ls := by
  obtain ⟨h1, h2, h3, h4, h5, h6⟩ := h
  refine ⟨h1, ⟨h2.1, ?_⟩, h3, fun j hj => (h4 j hj).below hb hB, h5, h6⟩
  rcases h2.2 with hn | ⟨g, cap, cur, e, hl, hg, rest⟩
  · exact .inl hn
  · have hlt := h3 g (by rw [e]; rfl)
    exact .inr ⟨g, cap, cur, e, hl, (hb.block g (by omega)).trans hg, rest⟩
theorem OwnL.below {B : Nat} (h : OwnL w lo hi A n c ls) (hb : Below B w w') (hB : hi ≤ B) : OwnL w' lo hi A n c ls := by
  obtain ⟨E, h⟩ := h
  exact ⟨E, h.below hb hB⟩
theorem OwnL.drawn (h : OwnL w lo hi A n c ls) (hd : Drawn w w') : OwnL w' lo hi A n c ls := h.below (hd.below hi) (Nat.le_refl _)
theorem OwnL.cap (h : OwnL w lo hi A n c ls) : n ≤ c := by
  obtain ⟨E, _, h2, _⟩ := h
  rcases h2.2 with ⟨e, h0⟩ | ⟨g, cap, cur, e, _, _, hc, _⟩
  · omega
  · injection e with _ _ e3; omega
theorem OwnL.wide {lo' hi' : Nat} (h : OwnL w lo hi A n c ls) (h1 : lo' ≤ lo) (h2 : hi ≤ hi') : OwnL w lo' hi' A n c ls := by
  obtain ⟨E, e1, e2, e3, e4, e5, e6⟩ := h
  refine ⟨E, e1, ⟨e2.1, ?_⟩, fun k hk => Nat.lt_of_lt_of_le (e3 k hk) h2, fun j hj => (e4 j hj).wide h1 h2, e5, e6⟩
  rcases e2.2 with hn | ⟨g, cap, cur, e, hl, rest⟩
  · exact .inl hn
  · exact .inr ⟨g, cap, cur, e, Nat.le_trans h1 hl, rest⟩
theorem OwnL.within {lo' hi' : Nat} (h : OwnL w lo hi A n c ls) (hw : Within lo' hi' w w') (hd : hi ≤ lo' ∨ hi' ≤ lo) : OwnL w' lo hi A n c ls := by
  obtain ⟨E, h1, h2, h3, h4, h5, h6⟩ := h
  refine ⟨E, h1, ⟨h2.1, ?_⟩, h3, fun j hj => (h4 j hj).within hw hd, h5, h6⟩
  rcases h2.2 with hn | ⟨g, cap, cur, e, hl, hg, rest⟩
  · exact .inl hn
  · have hlt := h3 g (by rw [e]; rfl)
    have hsz := (h2.lt g (by rw [e]; rfl)).2
    exact .inr ⟨g, cap, cur, e, hl, (hw.2.2.2.2 g hsz (by omega)).trans hg, rest⟩
/-- A list more behind them. -/
theorem OwnLE.app (h : OwnLE E w lo hi A n c ls) {lo2 hi2 n2 c2 : Nat} {A2 : Option Addr} {xs : List Int} (hx : Own w lo2 hi2 A2 n2 c2 xs)
    (hlo : lo ≤ lo2) (hd : hi ≤ lo2) {H g cap : Nat} (hH : hi2 ≤ H) (hHh : hi ≤ H) (hHw : H ≤ w.heap.size)
    (ho : w'.ownsRow lo 22 1 (.slice (some ⟨g, 0, none⟩) (n + 1) cap) (n + 1) (heads n E ++ [.slice A2 n2 c2]))
    (hg : w.grownBy w' (Value.slice A n c).ownBlock) (hat : (Value.slice A n c).ownBlock = some g ∨ H ≤ g) (hlt : g < w'.heap.size) : OwnL w' lo w'.heap.size (some ⟨g, 0, none⟩) (n + 1) cap (ls ++ [xs]) := by
  obtain ⟨h1, h2, h3, h4, h5, h6⟩ := h
  have hsz := hg.size
  have eh : heads n E ++ [Value.slice A2 n2 c2] = heads (n + 1) (fun j => if j = n then (A2, n2, c2) else E j) := heads_app n E (A2, n2, c2)
  rw [eh] at ho
  have eE : ∀ j, j < n → (if j = n then ((A2, n2, c2) : Sv) else E j) = E j := fun j hj => by rw [if_neg (by omega)]
  have eN : (if n = n then ((A2, n2, c2) : Sv) else E n) = (A2, n2, c2) := if_pos rfl
  refine ⟨fun j => if j = n then (A2, n2, c2) else E j, by simp [h1], ho, ?_, ?_, ?_, ?_⟩
  · intro k hk
    simp [Value.ownBlock] at hk
    omega
  · intro j hj
    by_cases e : j = n
    · subst e
      have := @li_app_at ls xs
      rw [h1] at this
      rw [this]
      show Own w' lo w'.heap.size (if j = j then ((A2, n2, c2) : Sv) else E j).1 (if j = j then ((A2, n2, c2) : Sv) else E j).2.1 (if j = j then ((A2, n2, c2) : Sv) else E j).2.2 xs
      rw [eN]
      exact (hx.kept hg (fun b hb e => by have h7 := hx.lt b hb; have h8 := h3 b e; omega)).wide hlo (by omega)
    · rw [li_app_lt (by rw [h1]; omega)]
      show Own w' lo w'.heap.size (if j = n then ((A2, n2, c2) : Sv) else E j).1 (if j = n then ((A2, n2, c2) : Sv) else E j).2.1 (if j = n then ((A2, n2, c2) : Sv) else E j).2.2 _
      rw [eE j (by omega)]
      exact ((h4 j (by omega)).kept hg (fun b hb e => h5 j b (by omega) hb e)).wide (Nat.le_refl _) (by omega)
  · intro j b hj hb e2
    have hbg : b = g := by simp [Value.ownBlock] at e2; omega
    subst hbg
    have hb' : (sv (if j = n then ((A2, n2, c2) : Sv) else E j)).ownBlock = some b := hb
    by_cases e : j = n
    · subst e
      rw [eN] at hb'
      have h7 := hx.lt b hb'
      rcases hat with ha | ha
      · have := h3 b ha; omega
      · omega
    · rw [eE j (by omega)] at hb'
      rcases hat with ha | ha
      · exact h5 j b (by omega) hb' ha
      · have := (h4 j (by omega)).lt b hb'; omega
  · intro i j b hij hj hb hb2
    have hb' : (sv (if i = n then ((A2, n2, c2) : Sv) else E i)).ownBlock = some b := hb
    have hb2' : (sv (if j = n then ((A2, n2, c2) : Sv) else E j)).ownBlock = some b := hb2
    rw [eE i (by omega)] at hb'
    by_cases e : j = n
    · subst e
      rw [eN] at hb2'
      have h7 := hx.lt b hb2'
      have h8 := (h4 i (by omega)).lt b hb'
      omega
    · rw [eE j (by omega)] at hb2'
      exact h6 i j b hij (by omega) hb' hb2'
/-- One of the lists, at its place: it may be turned. -/
theorem OwnL.item {g : Nat} (h : OwnL w lo hi (some ⟨g, 0, none⟩) n c ls) {k : Nat} (hk : k < n) :
    ∃ A' n' c', w.cell? ⟨g, k, none⟩ = some (.slice A' n' c') ∧ (∀ j, w.frozen? ⟨g, j, none⟩ = false) ∧ Own w lo hi A' n' c' (li ls k) ∧
      ∀ w' ys, Own w' lo hi A' n' c' ys → w.grownBy w' (Value.slice A' n' c').ownBlock → OwnL w' lo hi (some ⟨g, 0, none⟩) n c (ls.set k ys) := by
  obtain ⟨E, hl, ho, hh, he, hne, hdd⟩ := h
  refine ⟨(E k).1, (E k).2.1, (E k).2.2, ?_, fun j => ho.frozenAt j, he k hk, ?_⟩
  · rw [ho.cellAt k (by omega), heads_get _ hk]; rfl
  · intro w' ys hy hg
    refine ⟨E, by simpa using hl, ho.kept hg ?_, hh, fun j hj => ?_, hne, hdd⟩
    · cases hb : (Value.slice (E k).1 (E k).2.1 (E k).2.2).ownBlock with
      | none => right; intro e; cases e
      | some b => right; intro e; exact hne k b hk hb e
    · rw [li_set (by omega)]
      by_cases e : j = k
      · subst e; rw [if_pos rfl]; exact hy
      · rw [if_neg e]
        refine (he j hj).kept hg (fun b hb e2 => ?_)
        rcases Nat.lt_or_gt_of_ne e with h | h
        · exact hdd j k b h hk hb e2
        · exact hdd k j b h hj e2 hb
end
/-- What a call that makes a slice of lists hands back. -/
def FreshL (w w' : World) (e : Ending) (ls : List (List Int)) : Prop :=
  ∃ A n c, e = .returned (.slice A n c) ∧ OwnL w' w.heap.size w'.heap.size A n c ls ∧ Below w.heap.size w w'
theorem FreshL.nil_ret {w w' : World} (h : Below w.heap.size w w') : FreshL w w' (.returned (.slice none 0 0)) [] := ⟨none, 0, 0, rfl, OwnL.nil _ _ _, h⟩
end Go.Proofs.Ythinbmjcdcmioaa

/-
  Slices of slices of numbers that a call owns: a list put in, a list more behind them, made of nothing. Conditions: lengths below 2^40.
-/

namespace Go.Proofs.Ythinbmjcdcmioaa
open Go.RowKit

theorem row1_eq {w : World} {lo : Nat} {t : TypeId} {v : Value} {n : Nat} {xs ys : List Value} (h : w.ownsRow lo t 1 v n xs) (e : xs = ys) : w.ownsRow lo t 1 v n ys := e ▸ h
theorem OwnL.put {w : World} {lo hi g n c : Nat} {ls : List (List Int)} (h : OwnL w lo hi (some ⟨g, 0, none⟩) n c ls) {k : Nat} (hk : k < n) {lo' hi' n' c' : Nat} {A' : Option Addr} {xs : List Int} (hx : Own w lo' hi' A' n' c' xs)
    (h1 : hi ≤ lo') (h2 : lo ≤ lo') (h3 : hi ≤ hi') :
    OwnL (w.setCell ⟨g, k, none⟩ (.slice A' n' c')) lo hi' (some ⟨g, 0, none⟩) n c (ls.set k xs) ∧ w.grownBy (w.setCell ⟨g, k, none⟩ (.slice A' n' c')) (some g) := by
  obtain ⟨E, hl, ho, hh, he, hne, hdd⟩ := h
  have hgl := hh g rfl
  obtain ⟨o1, gg⟩ := ho.stored k (.slice A' n' c')
  refine ⟨⟨fun j => if j = k then (A', n', c') else E j, by simpa using hl, ?_, fun b hb => by have := hh b hb; omega, fun j hj => ?_, fun j b hj hb => ?_, fun i j b hij hj hb => ?_⟩, gg⟩
  · exact row1_eq o1 (heads_set E hk (A', n', c'))
  · dsimp only
    rw [li_set (by omega)]
    by_cases e : j = k
    · rw [if_pos e, if_pos e]
      exact (hx.grown gg (fun b hb => .inl (by injection hb with hb; omega))).wide h2 (Nat.le_refl _)
    · rw [if_neg e, if_neg e]
      exact ((he j hj).kept gg (fun b hb => hne j b hj hb)).wide (Nat.le_refl _) h3
  · dsimp only at hb
    by_cases e : j = k
    · rw [if_pos e] at hb
      have := hx.lt b hb
      intro e2; injection e2 with e2; dsimp only at e2; omega
    · rw [if_neg e] at hb
      exact hne j b hj hb
  · dsimp only at hb ⊢
    by_cases e : i = k
    · rw [if_pos e] at hb
      rw [if_neg (by omega)]
      intro e2
      have := hx.lt b hb
      have := (he j hj).2 b e2
      omega
    · rw [if_neg e] at hb
      by_cases e' : j = k
      · rw [if_pos e']
        intro e2
        have := hx.lt b e2
        have := (he i (by omega)).2 b hb
        omega
      · rw [if_neg e']
        exact hdd i j b hij hj hb
theorem OwnL.zeros {w : World} {lo hi g n c : Nat} (h : w.ownsRow lo 22 1 (.slice (some ⟨g, 0, none⟩) n c) n (List.replicate n (.slice none 0 0))) (hlt : g < hi) : OwnL w lo hi (some ⟨g, 0, none⟩) n c (List.replicate n []) := by
  refine ⟨fun _ => (none, 0, 0), by simp, row1_eq h ?_, fun b hb => by simp [Value.ownBlock] at hb; omega, fun j hj => ?_, fun j b hj hb => by simp [sv, Value.ownBlock] at hb, fun i j b _ _ hb => by simp [sv, Value.ownBlock] at hb⟩
  · apply List.ext_getElem (by simp [heads])
    intro j h1 h2
    simp [heads, sv]
  · have e : li (List.replicate n ([] : List Int)) j = [] := by rw [li_get (by simpa using hj)]; simp
    rw [e]
    exact Own.nil _ _ _
theorem Try.infoLs : (Try.prog.info? 22).map (fun i => (i.zero, i.size, i.bytes)) = some (some (.slice none 0 0), 1, 24) := by kernel_rfl
/-- 'make([][]int, n)'. -/
theorem wpList_make_lists {ops : Array Oper} {rest : List Oper} {o : Oper} {a : Act} {w : World} {Q : Exit → Act → World → Prop} (hgd : o.guard = none) (l c : Operand) (ho : o.op = .makeSlice 27 l c)
    (n : Nat) (hl : a.eval l = .int .i64 n) (hc : a.eval c = .int .i64 n) (hn : n ≤ 1099511627776)
    (hK : ∀ w', OwnL w' w.heap.size w'.heap.size (some ⟨w.heap.size, 0, none⟩) n n (List.replicate n []) → Below w.heap.size w w' → wpList Try.prog ops Q rest (a.put o.dst (.slice (some ⟨w.heap.size, 0, none⟩) n n)) w') :
    wpList Try.prog ops Q (o :: rest) a w := by
  obtain ⟨i0, hi, hz0, hz1, hz2⟩ := info_parts Try.infoLs
  refine wpList_make_full w hgd l c 27 ho w.heap.size 22 i0 (.slice none 0 0) 1 Try.underlying27 hi hz0 hz1 .i64 .i64 n n n hl hc rfl rfl (by rw [hz2]; omega) (by unfold maxLen; omega) (Nat.le_refl _) ?_
  intro w1 ho1 hg1
  have e : (madeCells (Value.slice none 0 0).cells (n * 1)).toList = List.replicate n (.slice none 0 0) := by
    rw [show (Value.slice none 0 0).cells = #[Value.slice none 0 0] from rfl, Nat.mul_one, toList_madeCells_one]
  rw [e] at ho1
  exact hK w1 (OwnL.zeros ho1 (ho1.lt w.heap.size rfl).2) (grow_below hg1 (Nat.le_refl _) (by intro k hk; cases hk))
/-- 'out = append(out, x)' where x is a list of the call's own that lies behind them. -/
theorem wpList_appendL {ops : Array Oper} {rest : List Oper} {o : Oper} {a : Act} {w : World} {Q : Exit → Act → World → Prop} (hgd : o.guard = none) (s x : Operand)
    (ho : o.op = .call { callee := .builtin .append, args := #[s, x], argTypes := #[27, 27] })
    (lo hi : Nat) (A : Option Addr) (n c : Nat) (ls : List (List Int)) (lo2 hi2 : Nat) (A3 : Option Addr) (n3 c3 : Nat) (xs : List Int) (hs : a.eval s = .slice A n c) (hx : a.eval x = .slice (some ⟨w.heap.size, 0, none⟩) 1 1)
    (hown : OwnL w lo hi A n c ls) (hxs : Own w lo2 hi2 A3 n3 c3 xs) (hlo : lo ≤ lo2) (hd : hi ≤ lo2) (h1 : hi2 ≤ w.heap.size) (h2 : hi ≤ w.heap.size) (h3 : lo ≤ w.heap.size) (hn : n ≤ 1099511627776)
    (hK : ∀ A' c' w', OwnL w' lo w'.heap.size A' (n + 1) c' (ls ++ [xs]) → Below lo w w' → wpList Try.prog ops Q rest (a.put o.dst (.slice A' (n + 1) c')) w') :
    wpList Try.prog ops Q (o :: rest) a (w.alloc (.cells #[.slice A3 n3 c3] 22)) := by
  obtain ⟨i0, hi0, hz0, hz1, hz2⟩ := info_parts Try.infoLs
  obtain ⟨E, hE⟩ := hown
  have hE' : OwnLE E (w.alloc (.cells #[.slice A3 n3 c3] 22)) lo hi A n c ls := hE.below ((Below.refl w.heap.size w).alloc (Nat.le_refl _) _) h2
  have hx' : Own (w.alloc (.cells #[.slice A3 n3 c3] 22)) lo2 hi2 A3 n3 c3 xs := hxs.below ((Below.refl w.heap.size w).alloc (Nat.le_refl _) _) h1
  refine Go.wpList_append_own_at _ hgd s x 27 ho lo 22 i0 (.slice none 0 0) 1 24 Try.underlying27 hi0 hz0 hz1 hz2 rfl (by decide) _ _ _ hs hE'.2.1 ⟨w.heap.size, 0, none⟩ 1 1 [.slice A3 n3 c3] hx rfl ?_ ?_ (by unfold maxLen; omega) (by omega) (by simp; omega) ?_
  · intro j u hj
    match j, hj with
    | 0, hj =>
      simp at hj
      subst hj
      rw [add_pt]
      exact (Blk.new w 22 #[.slice A3 n3 c3]).cell 0
  · intro u hu
    simp at hu
    subst hu
    rfl
  · intro v' w1 ho1 hg1 _ hat
    obtain ⟨g, cap, rfl, _, hlt⟩ := ho1.form (by omega)
    have hh : OwnL w1 lo w1.heap.size (some ⟨g, 0, none⟩) (n + 1) cap (ls ++ [xs]) := hE'.app hx' hlo hd (H := w.heap.size) h1 h2 (by simp) ho1 hg1 (by
      rcases hat with h | h
      · exact .inl (by rw [← h]; rfl)
      · right
        simp [Value.ownBlock] at h
        omega) hlt
    have hg2 : w.grownBy w1 (Value.slice A n c).ownBlock := (World.grownBy_alloc w _ _).trans hg1
    exact hK _ _ w1 hh (grow_below hg2 h3 (fun k hk => (hE.2.1.lt k hk).1))
end Go.Proofs.Ythinbmjcdcmioaa

/-
  The size of a slice of numbers that came in. Conditions: lengths below 2^63.
-/

namespace Go.Proofs.Ythinbmjcdcmioaa
open Go.RowKit

set_option maxHeartbeats 400000 in
theorem szIntS_any (A : Option Addr) (n c : Nat) (l : Int) (w : World) (hn : n ≤ 9223372036854775807) (h0 : 0 ≤ l) (h1 : l ≤ 1048576) :
    Calls Try.prog 59 #[.slice A n c, .int .i64 l] w fun e w' => e = .returned (.int .i64 (if l < (n : Int) then -1 else l - n)) ∧ w' = w := by
  by_cases h : l < (n : Int)
  · have h' : l - (n : Int) < 0 := by omega
    have hw : IntKind.i64.wrap (l - (n : Int)) = l - (n : Int) := IntWalk.i64_in _ (by omega)
    rw [if_pos h]
    go_enter Try.func59, Try.ntmps59
    go_wp2
    go_ret
    exact ⟨rfl, rfl⟩
  · have h' : ¬ l - (n : Int) < 0 := by omega
    have hw : IntKind.i64.wrap (l - (n : Int)) = l - (n : Int) := IntWalk.i64_in _ (by omega)
    rw [if_neg h]
    go_enter Try.func59, Try.ntmps59
    go_wp2
    go_ret
    exact ⟨rfl, rfl⟩
end Go.Proofs.Ythinbmjcdcmioaa

/-
  The helpers of the exact laws at slices of slices of numbers: copying, measuring, comparing, marking, holding. Conditions: lengths below 2^40.
-/


namespace Go.Proofs.Ythinbmjcdcmioaa
open Go.RowKit

theorem take_li {ls : List (List Int)} {k : Nat} (h : k < ls.length) : ls.take (k + 1) = ls.take k ++ [li ls k] := by
  rw [List.take_succ_eq_append_getElem h, li_get h]
def copLs (ls : List (List Int)) (k : Nat) : List (List Int) := ls.take k ++ List.replicate (ls.length - k) []
theorem copLs_zero (ls : List (List Int)) : copLs ls 0 = List.replicate ls.length [] := by simp [copLs]
theorem copLs_all (ls : List (List Int)) : copLs ls ls.length = ls := by simp [copLs]
theorem copLs_succ {ls : List (List Int)} {k : Nat} (h : k < ls.length) : (copLs ls k).set k (li ls k) = copLs ls (k + 1) := by
  unfold copLs
  have hl : (ls.take k).length = k := by simp; omega
  rw [List.set_append_right _ _ (by omega), hl]
  have e : ls.length - k = (ls.length - (k + 1)) + 1 := by omega
  rw [e, List.replicate_succ, Nat.sub_self, List.set_cons_zero, take_li h, List.append_assoc]
  rfl
set_option maxHeartbeats 800000 in
theorem toIntSS_any (A : Option Addr) (n c : Nat) (ls : List (List Int)) (w : World) (hs : LS w A n ls) (hn : n ≤ 1099511627776) (hne : ∀ k, k < n → (li ls k).length ≤ 1099511627776) :
    Calls Try.prog 27 #[.slice A n c] w fun e w' => FreshL w w' e ls := by
  have hl := hs.1
  have HNE := Lib.hid hne
  have HL := Lib.hid hl
  obtain ⟨B, hB⟩ : ∃ B, B = w.heap.size := ⟨_, rfl⟩
  have HB0 : Hid (B = w.heap.size) := hB
  clear hne
  go_enter Try.func27, Try.ntmps27
  go_wp2_with (at_make; refine wpList_make_lists rfl (.tmp 6) (.tmp 6) rfl n rfl rfl hn ?_; intro w1 hown hbel1)
  rw [← hB] at hown hbel1 ⊢
  go_loopw [4] (fun i wr => ∃ k : Nat, k ≤ n ∧ i = .int .i64 k ∧ OwnL wr B wr.heap.size (some ⟨B, 0, none⟩) n n (copLs ls k) ∧ Below B w wr)
    (fun i _ => n - (intOf i).toNat)
  case atStart =>
    refine ⟨0, Nat.zero_le _, rfl, ?_, hbel1⟩
    rw [copLs_zero, hl]; exact hown
  case round =>
    obtain ⟨k, hk, rfl, hown2, hbel⟩ := hrel
    clear hown hbel1 w1
    have HO := Lib.hid hown2
    have HB := Lib.hid hbel
    by_cases hlt : k < n
    · obtain ⟨b, o, A', n', c', rfl, hb, hc0, hsi, hnc, hnil⟩ := (hs.below hbel (by omega)).at_ hlt
      obtain ⟨xs, hxs⟩ : ∃ xs, xs = li ls k := ⟨_, rfl⟩
      rw [← hxs] at hsi
      have hn' : n' ≤ 1099511627776 := by have := HNE.out k hlt; rw [← hxs] at this; have := hsi.1; omega
      have HXS := Lib.hid hxs
      have HSI := Lib.hid hsi
      clear hxs hown2 hbel hs hl hsi hB
      have hlI : (k : Int) < (n : Int) := by omega
      go_wp2_with fail
      refine (toIntS_fr _ _ _ xs _ HSI.out hn').mono ?_
      rintro e w2 ⟨A2, n2, c2, rfl, ho2, hb2⟩
      have hO2 := HO.out.below hb2 (Nat.le_refl _)
      obtain ⟨A3, n3, c3, hd0, hfz, _⟩ := hO2.item hlt
      have hf0 := hfz k
      have hput := hO2.put hlt ho2 (Nat.le_refl _) (by have := HB0.out; have := HB.out.size; omega) hb2.size
      have HP := Lib.hid hput
      have HB2 := Lib.hid (HB.out.trans (hb2.mono (by have := HB.out.size; have := HB0.out; omega)))
      clear hfz hput hO2 ho2 hb2 HSI hc0
      go_wp2
      go_roundw
      case rel =>
        refine ⟨k + 1, by omega, by go_num, ?_, ?_⟩
        · have h1 := HP.out.1
          rw [HXS.out, copLs_succ (by rw [HL.out]; exact hlt)] at h1
          simpa using h1
        · exact HB2.out.grown HP.out.2 (by have := HB2.out.size; have := HB0.out; omega) (by rintro q ⟨⟩; exact Nat.le_refl _)
      case measure => simp [intOf]; omega
    · have hkn : k = n := by omega
      subst hkn
      go_wp2
      go_ret
      have e := HB0.out
      subst e
      refine ⟨_, _, _, rfl, ?_, HB.out⟩
      have := HO.out
      rw [← HL.out, copLs_all] at this
      rw [← HL.out]
      exact this
/-- Equality of two lists of lists as a Bool. -/
def eqLs (ls us : List (List Int)) : Bool := decide (ls = us)
theorem eqLs_self (ls : List (List Int)) : eqLs ls ls = true := by simp [eqLs]
theorem eqLs_len {ls us : List (List Int)} (h : ls.length ≠ us.length) : eqLs ls us = false := by
  simp only [eqLs, decide_eq_false_iff_not]; intro e; exact h (by rw [e])
theorem eqLs_ne {ls us : List (List Int)} {k : Nat} (h : li ls k ≠ li us k) : eqLs ls us = false := by
  simp only [eqLs, decide_eq_false_iff_not]; intro e; exact h (by rw [e])
theorem eqL_true {xs ys : List Int} (h : eqL xs ys = true) : xs = ys := by simpa [eqL] using h
theorem eqL_false' {xs ys : List Int} (h : eqL xs ys = false) : xs ≠ ys := by simpa [eqL] using h
set_option maxHeartbeats 800000 in
theorem eqIntSS_any (A A2 : Option Addr) (n c n2 c2 : Nat) (ls us : List (List Int)) (w : World) (hs : LS w A n ls) (hs2 : LS w A2 n2 us) (hn : n ≤ 1099511627776) (hn2 : n2 ≤ 1099511627776)
    (hne : ∀ k, k < n → (li ls k).length ≤ 1099511627776) (hne2 : ∀ k, k < n2 → (li us k).length ≤ 1099511627776) :
    Calls Try.prog 29 #[.slice A n c, .slice A2 n2 c2] w fun e w' => e = .returned (.bool (eqLs ls us)) ∧ Drawn w w' := by
  have HL := Lib.hid hs.1
  have HL2 := Lib.hid hs2.1
  have HNE := Lib.hid hne
  have HNE2 := Lib.hid hne2
  clear hne hne2
  by_cases hlen : n = n2
  · subst hlen
    go_enter Try.func29, Try.ntmps29
    go_wp2
    go_loopw [5] (fun i wr => ∃ k : Nat, k ≤ n ∧ i = .int .i64 k ∧ Drawn w wr ∧ ∀ j, j < k → li ls j = li us j)
      (fun i _ => n - (intOf i).toNat)
    case atStart => exact ⟨0, Nat.zero_le _, rfl, Drawn.refl _, fun j hj => absurd hj (by omega)⟩
    case round =>
      obtain ⟨k, hk, rfl, hD, hall⟩ := hrel
      have HA := Lib.hid hall
      have HD := Lib.hid hD
      have h1 := hs.drawn hD
      have h2 := hs2.drawn hD
      clear hall hD
      by_cases hlt : k < n
      · have hlI : (k : Int) < (n : Int) := by omega
        obtain ⟨b, o, A', n', c', rfl, hb, hc0, hsi, _, _⟩ := h1.at_ hlt
        obtain ⟨b2, o2, A3, n3, c3, rfl, hb2, hc2, hsi2, _, _⟩ := h2.at_ hlt
        have hE := eqIntS_any A' A3 n' c' n3 c3 (li ls k) (li us k)
        have hq1 : n' ≤ 1099511627776 := by have := HNE.out k hlt; have := hsi.1; omega
        have hq2 : n3 ≤ 1099511627776 := by have := HNE2.out k hlt; have := hsi2.1; omega
        have HE := Lib.hid (fun wx (hd : Drawn wr wx) => hE wx (hd.si hsi) (hd.si hsi2) hq1 hq2)
        clear hE h1 h2 hsi hsi2
        cases hu : eqL (li ls k) (li us k) with
        | true =>
          rw [hu] at HE
          have HU := Lib.hid (eqL_true hu)
          clear hu
          go_wp2_with fail
          go_quiet ((go_at_call 18; exact Calls.quiet_of (HE.out _ (by first | exact ⟨_, rfl⟩ | assumption))))
          go_wp2
          go_roundw
          case rel => exact ⟨k + 1, by omega, by go_num, HD.out.drewN _, fun j hj => by
            rcases Nat.lt_or_ge j k with h | h
            · exact HA.out j h
            · obtain rfl : j = k := by omega
              exact HU.out⟩
          case measure => simp [intOf]; omega
        | false =>
          rw [hu] at HE
          have HU := Lib.hid (eqLs_ne (eqL_false' hu))
          clear hu
          go_wp2_with fail
          go_quiet ((go_at_call 18; exact Calls.quiet_of (HE.out _ (by first | exact ⟨_, rfl⟩ | assumption))))
          go_wp2
          go_ret
          exact ⟨ret_bool HU.out.symm, HD.out.drewN _⟩
      · have hkn : k = n := by omega
        subst hkn
        go_wp2
        go_ret
        refine ⟨ret_bool ?_, HD.out⟩
        have e : ls = us := li_ext (by rw [HL.out, HL2.out]) (by rw [HL.out]; exact HA.out)
        rw [e, eqLs_self]
  · have hb : ((n : Int) == (n2 : Int)) = false := by simp; omega
    have HF := Lib.hid (eqLs_len (ls := ls) (us := us) (by rw [HL.out, HL2.out]; exact hlen))
    clear hs hs2 hlen
    go_enter Try.func29, Try.ntmps29
    go_wp2
    go_ret
    exact ⟨ret_bool HF.out.symm, Drawn.refl _⟩
/-- What marking writes, from q on. -/
def marksS : List (List Int) → Int → List (List Int)
  | [], _ => []
  | t :: r, q => marks t.length q :: marksS r (q + (t.length : Int))
/-- The number behind the last mark. -/
def endS : List (List Int) → Int → Int
  | [], q => q
  | t :: r, q => endS r (q + (t.length : Int))
theorem marksS_len : ∀ (ts : List (List Int)) (q : Int), (marksS ts q).length = ts.length
  | [], _ => rfl
  | _ :: r, q => by simp [marksS, marksS_len r]
theorem endS_app : ∀ (ts us : List (List Int)) (q : Int), endS (ts ++ us) q = endS us (endS ts q)
  | [], _, _ => rfl
  | _ :: r, us, _ => endS_app r us _
theorem endS_from : ∀ (ts : List (List Int)) (q : Int), endS ts q = q + endS ts 0
  | [], q => by simp [endS]
  | t :: r, q => by show endS r _ = q + endS r (0 + _); rw [endS_from r (q + _), endS_from r (0 + _)]; omega
theorem marksS_app : ∀ (ts us : List (List Int)) (q : Int), marksS (ts ++ us) q = marksS ts q ++ marksS us (endS ts q)
  | [], _, _ => rfl
  | t :: r, us, q => by show _ :: marksS (r ++ us) _ = _ :: (_ ++ _); rw [marksS_app r us]; rfl
def mixS (ts : List (List Int)) (q : Int) (k : Nat) : List (List Int) := marksS (ts.take k) q ++ ts.drop k
theorem mixS_zero (ts : List (List Int)) (q : Int) : mixS ts q 0 = ts := by simp [mixS, marksS]
theorem mixS_all (ts : List (List Int)) (q : Int) : mixS ts q ts.length = marksS ts q := by simp [mixS]
theorem mixS_li {ts : List (List Int)} {q : Int} {k : Nat} (h : k < ts.length) : li (mixS ts q k) k = li ts k := by
  unfold mixS li
  rw [List.getD_eq_getElem?_getD, List.getD_eq_getElem?_getD, List.getElem?_append_right (by rw [marksS_len]; simp; omega), marksS_len]
  simp [Nat.min_eq_left (Nat.le_of_lt h)]
theorem endS_succ {ts : List (List Int)} {q : Int} {k : Nat} (h : k < ts.length) : endS (ts.take (k + 1)) q = endS (ts.take k) q + ((li ts k).length : Int) := by
  rw [take_li h, endS_app]; rfl
theorem mixS_succ {ts : List (List Int)} {q : Int} {k : Nat} (h : k < ts.length) : (mixS ts q k).set k (marks (li ts k).length (endS (ts.take k) q)) = mixS ts q (k + 1) := by
  unfold mixS
  have hl : (marksS (ts.take k) q).length = k := by rw [marksS_len]; simp; omega
  rw [List.set_append_right _ _ (by omega), hl, Nat.sub_self, List.drop_eq_getElem_cons h, List.set_cons_zero, take_li h, marksS_app, List.append_assoc]
  rfl
theorem marksS_li {ts : List (List Int)} {q : Int} {k : Nat} (h : k < ts.length) : li (marksS ts q) k = marks (li ts k).length (endS (ts.take k) q) := by
  have e : marksS ts q = marksS (ts.take k) q ++ marksS (ts.drop k) (endS (ts.take k) q) := by rw [← marksS_app, List.take_append_drop]
  rw [e]
  unfold li
  rw [List.getD_eq_getElem?_getD, List.getElem?_append_right (by rw [marksS_len]; simp; omega), marksS_len]
  rw [List.drop_eq_getElem_cons h]
  simp [marksS, Nat.min_eq_left (Nat.le_of_lt h), List.getD, h]
set_option maxHeartbeats 800000 in
theorem markIntSS_own (g n c lo hi : Nat) (ts : List (List Int)) (q : Int) (w : World) (hs : OwnL w lo hi (some ⟨g, 0, none⟩) n c ts) (hn : n ≤ 1099511627776) (hne : ∀ k, k < n → (li ts k).length ≤ 1099511627776)
    (hq : ∀ k, k ≤ n → 0 ≤ endS (ts.take k) q ∧ endS (ts.take k) q ≤ 1099511627776) :
    Calls Try.prog 43 #[.slice (some ⟨g, 0, none⟩) n c, .int .i64 q] w fun e w' => e = .returned (.int .i64 (endS ts q)) ∧ OwnL w' lo hi (some ⟨g, 0, none⟩) n c (marksS ts q) ∧ Within lo hi w w' := by
  have HL := Lib.hid hs.len
  have HNE := Lib.hid hne
  have HQ := Lib.hid hq
  clear hne hq
  go_enter Try.func43, Try.ntmps43
  go_wp2
  go_loopw [1, 5] (fun p i wr => ∃ k : Nat, k ≤ n ∧ i = .int .i64 k ∧ p = .int .i64 (endS (ts.take k) q) ∧ OwnL wr lo hi (some ⟨g, 0, none⟩) n c (mixS ts q k) ∧ Within lo hi w wr)
    (fun _ i _ => n - (intOf i).toNat)
  case atStart => exact ⟨0, Nat.zero_le _, rfl, rfl, by rw [mixS_zero]; exact hs, Within.refl _ _ _⟩
  case round =>
    obtain ⟨k, hk, rfl, rfl, hown, hwi⟩ := hrel
    clear hs
    by_cases hlt : k < n
    · have hlI : (k : Int) < (n : Int) := by omega
      obtain ⟨A', n', c', hc0, hfz, hx, hback⟩ := hown.item hlt
      rw [mixS_li (by rw [HL.out]; exact hlt)] at hx
      have hq0 := HQ.out k hk
      have es := endS_succ (ts := ts) (q := q) (k := k) (by rw [HL.out]; exact hlt)
      have em := mixS_succ (ts := ts) (q := q) (k := k) (by rw [HL.out]; exact hlt)
      have hl' := hx.len
      rw [hl'] at es em
      have hn' : n' ≤ 1099511627776 := by have := HNE.out k hlt; omega
      obtain ⟨z, hz⟩ : ∃ z, z = endS (ts.take k) q := ⟨_, rfl⟩
      rw [← hz] at hq0 es em ⊢
      have hM := markIntS_any A' n' c' lo hi (li ts k) z wr hx hn' hq0.1 hq0.2
      have HM := Lib.hid hM
      have HBK := Lib.hid hback
      have HX := Lib.hid hx
      have HW := Lib.hid hwi
      have HES := Lib.hid es
      have HEM := Lib.hid em
      clear hown hfz hx hback hM hwi es em hz hl'
      go_wp2_with fail
      refine HM.out.mono ?_
      rintro e w2 ⟨rfl, ho2, hg2⟩
      have hO2 := HBK.out w2 _ ho2 hg2
      rw [HEM.out] at hO2
      have HO3 := Lib.hid hO2
      have HW3 := Lib.hid (HW.out.trans (Within.of_grown hg2 (fun b hb => HX.out.lt b hb)))
      clear hO2 ho2 hg2 HBK HX HM HW hc0
      go_wp2
      go_roundw
      case rel => exact ⟨k + 1, by omega, by go_num, by rw [HES.out], HO3.out, HW3.out⟩
      case measure => simp [intOf]; omega
    · have hkn : k = n := by omega
      subst hkn
      have e1 : ts.take k = ts := List.take_of_length_le (by rw [HL.out]; omega)
      rw [e1]
      have e2 := mixS_all ts q
      rw [HL.out] at e2
      rw [e2] at hown
      go_wp2
      go_ret
      exact ⟨rfl, hown, hwi⟩
set_option maxHeartbeats 400000 in
theorem markIntSS_any (A : Option Addr) (n c lo hi : Nat) (ts : List (List Int)) (q : Int) (w : World) (hs : OwnL w lo hi A n c ts) (hn : n ≤ 1099511627776) (hne : ∀ k, k < n → (li ts k).length ≤ 1099511627776)
    (hq : ∀ k, k ≤ n → 0 ≤ endS (ts.take k) q ∧ endS (ts.take k) q ≤ 1099511627776) :
    Calls Try.prog 43 #[.slice A n c, .int .i64 q] w fun e w' => e = .returned (.int .i64 (endS ts q)) ∧ OwnL w' lo hi A n c (marksS ts q) ∧ Within lo hi w w' := by
  by_cases h0 : 0 < n
  · obtain ⟨g, rfl, h1, h2⟩ := hs.place h0
    exact markIntSS_own g n c lo hi ts q w hs hn hne hq
  · have hz : n = 0 := by omega
    subst hz
    have hx : ts = [] := List.eq_nil_of_length_eq_zero hs.len
    subst hx
    have HS := Lib.hid hs
    clear hs hq hne
    go_enter Try.func43, Try.ntmps43
    go_wp2
    refine wp_loop_rounds 1 ?_
    rw [rounds_succ]
    go_wp2
    go_ret
    exact ⟨rfl, HS.out, Within.refl _ _ _⟩
set_option maxHeartbeats 800000 in
theorem heldIntSS_yes (A : Option Addr) (n c : Nat) (ts : List (List Int)) (q : Int) (w : World) (hs : LS w A n (marksS ts q)) (hn : n ≤ 1099511627776) (hne : ∀ k, k < n → (li ts k).length ≤ 1099511627776)
    (hq : ∀ k, k ≤ n → 0 ≤ endS (ts.take k) q ∧ endS (ts.take k) q ≤ 1099511627776) :
    Calls Try.prog 44 #[.slice A n c, .int .i64 q] w fun e w' => e = .returned (.int .i64 (endS ts q)) ∧ Drawn w w' := by
  have HL : Hid (ts.length = n) := Lib.hid (by rw [← marksS_len ts q]; exact hs.1)
  have HNE := Lib.hid hne
  have HQ := Lib.hid hq
  clear hne hq
  go_enter Try.func44, Try.ntmps44
  go_wp2
  go_loopw [1, 5] (fun p i wr => ∃ k : Nat, k ≤ n ∧ i = .int .i64 k ∧ p = .int .i64 (endS (ts.take k) q) ∧ Drawn w wr)
    (fun _ i _ => n - (intOf i).toNat)
  case atStart => exact ⟨0, Nat.zero_le _, rfl, rfl, Drawn.refl _⟩
  case round =>
    obtain ⟨k, hk, rfl, rfl, hD⟩ := hrel
    have HD := Lib.hid hD
    have hts := hs.drawn hD
    clear hs hD
    by_cases hlt : k < n
    · have hlI : (k : Int) < (n : Int) := by omega
      obtain ⟨b, o, A', n', c', rfl, hb, hc0, hsi, hnc, hnil⟩ := hts.at_ hlt
      rw [marksS_li (by rw [HL.out]; exact hlt)] at hsi
      have hq0 := HQ.out k hk
      have hq1 := HQ.out (k + 1) (by omega)
      have es := endS_succ (ts := ts) (q := q) (k := k) (by rw [HL.out]; exact hlt)
      have hl' : n' = (li ts k).length := by rw [← hsi.1]; simp [marks_len]
      have hn' : n' ≤ 1099511627776 := by have := HNE.out k hlt; omega
      rw [← hl'] at es hsi
      obtain ⟨z, hz⟩ : ∃ z, z = endS (ts.take k) q := ⟨_, rfl⟩
      rw [← hz] at hq0 es hsi ⊢
      rw [es] at hq1
      have hM := heldIntS_yes A' n' c' z wr hsi hn' hq0.1 hq0.2
      have HM := Lib.hid hM
      have HES := Lib.hid es
      clear hts hsi hM es hz hl' hnil
      have hzn : ¬ z + (n' : Int) < 0 := by omega
      go_wp2_with fail
      refine HM.out.mono ?_
      rintro e w2 ⟨rfl, hD2⟩
      have HD2 := Lib.hid (HD.out.trans hD2)
      clear hD2 hc0 HM
      go_wp2
      go_roundw
      case rel => exact ⟨k + 1, by omega, by go_num, by rw [HES.out], HD2.out⟩
      case measure => simp [intOf]; omega
    · have hkn : k = n := by omega
      subst hkn
      have e1 : ts.take k = ts := List.take_of_length_le (by rw [HL.out]; omega)
      rw [e1]
      go_wp2
      go_ret
      exact ⟨rfl, HD.out⟩
set_option maxHeartbeats 800000 in
/-- The size of what came in: it is too large, or all its parts and their sum are bounded. -/
theorem szIntSS_any (A : Option Addr) (n c : Nat) (ls : List (List Int)) (w : World) (hs : LS w A n ls) (hn : n ≤ 9223372036854775807) (hne : ∀ k, k < n → (li ls k).length ≤ 9223372036854775807) :
    Calls Try.prog 25 #[.slice A n c, .int .i64 1048576] w fun e w' => (∃ r : Int, e = .returned (.int .i64 r) ∧ (r < 0 ∨ 0 ≤ r ∧ n ≤ 1048576 ∧ (∀ k, k < n → (li ls k).length ≤ 1048576) ∧ ∀ k, k ≤ n → 0 ≤ endS (ls.take k) 1 ∧ endS (ls.take k) 1 ≤ 1048577)) ∧ Drawn w w' := by
  have HL := Lib.hid hs.1
  have HNE := Lib.hid hne
  clear hne
  by_cases hbig : 1048576 < n
  · have h1 : (1048576 : Int) - (n : Int) < 0 := by omega
    have hw : IntKind.i64.wrap ((1048576 : Int) - (n : Int)) = (1048576 : Int) - (n : Int) := IntWalk.i64_in _ (by omega)
    go_enter Try.func25, Try.ntmps25
    go_wp2
    go_ret
    exact ⟨⟨-1, rfl, .inl (by omega)⟩, Drawn.refl _⟩
  · have h1 : ¬ (1048576 : Int) - (n : Int) < 0 := by omega
    have hw : IntKind.i64.wrap ((1048576 : Int) - (n : Int)) = (1048576 : Int) - (n : Int) := IntWalk.i64_in _ (by omega)
    go_enter Try.func25, Try.ntmps25
    go_wp2
    go_loopw [1, 5] (fun v i wr => ∃ k : Nat, k ≤ n ∧ i = .int .i64 k ∧ v = .int .i64 (1048576 - (n : Int) - (endS (ls.take k) 0)) ∧ 0 ≤ 1048576 - (n : Int) - (endS (ls.take k) 0) ∧ (∀ j, j < k → (li ls j).length ≤ 1048576) ∧ (∀ j, j ≤ k → 0 ≤ endS (ls.take j) 0 ∧ endS (ls.take j) 0 ≤ 1048576) ∧ Drawn w wr)
      (fun _ i _ => n - (intOf i).toNat)
    case atStart => exact ⟨0, Nat.zero_le _, rfl, by simp [endS], by simp [endS]; omega, fun j hj => absurd hj (by omega), fun j hj => by rw [show j = 0 by omega]; simp [endS], Drawn.refl _⟩
    case round =>
      obtain ⟨k, hk, rfl, rfl, hl0, hsm, hbs, hD⟩ := hrel
      have HSM := Lib.hid hsm
      have HBS := Lib.hid hbs
      have HD := Lib.hid hD
      have h2 := hs.drawn hD
      have hb0 := hbs k (Nat.le_refl _)
      clear hsm hbs hD
      by_cases hlt : k < n
      · have hlI : (k : Int) < (n : Int) := by omega
        obtain ⟨b, o, A', n', c', rfl, hb, hc0, hsi, _, _⟩ := h2.at_ hlt
        have es := endS_succ (ts := ls) (q := 0) (k := k) (by rw [HL.out]; exact hlt)
        rw [hsi.1] at es
        have hn' : n' ≤ 9223372036854775807 := by have := HNE.out k hlt; rw [hsi.1] at this; exact this
        have HN' : Hid ((li ls k).length = n') := Lib.hid hsi.1
        obtain ⟨z, hz⟩ : ∃ z, z = endS (ls.take k) 0 := ⟨_, rfl⟩
        rw [← hz] at hl0 hb0 es ⊢
        have HES := Lib.hid es
        have HZ := Lib.hid hz
        obtain ⟨l, hl⟩ : ∃ l, l = 1048576 - (n : Int) - z := ⟨_, rfl⟩
        have HLE := Lib.hid hl
        rw [← hl] at hl0 ⊢
        have hS := fun w => szIntS_any A' n' c' l w hn' hl0 (by omega)
        clear h2 hsi es hz hl
        by_cases hbg : l < (n' : Int)
        · simp only [if_pos hbg] at hS
          have HSZ := Lib.hid hS
          clear hS
          go_wp2_with (go_at_call 59; refine (HSZ.out _).mono ?_; rintro e w2 ⟨rfl, hw2⟩; have HW2 := Lib.hid hw2; clear hw2)
          go_ret
          exact ⟨⟨-1, rfl, .inl (by omega)⟩, by rw [HW2.out]; exact HD.out⟩
        · simp only [if_neg hbg] at hS
          have HSZ := Lib.hid hS
          have hnn : ¬ l - (n' : Int) < 0 := by omega
          clear hS
          go_wp2_with (go_at_call 59; refine (HSZ.out _).mono ?_; rintro e w2 ⟨rfl, hw2⟩; have HW2 := Lib.hid hw2; clear hw2)
          go_roundw
          case rel =>
            have h1 := HES.out
            have h2 := HLE.out
            refine ⟨k + 1, by omega, by go_num, by rw [h1, h2]; congr 1; omega, by rw [h1]; omega, fun j hj => ?_, fun j hj => ?_, by rw [HW2.out]; exact HD.out⟩
            · rcases Nat.lt_or_ge j k with h | h
              · exact HSM.out j h
              · obtain rfl : j = k := by omega
                rw [HN'.out]; omega
            · rcases Nat.lt_or_ge j (k + 1) with h | h
              · exact HBS.out j (by omega)
              · obtain rfl : j = k + 1 := by omega
                rw [h1]; omega
          case measure => simp [intOf]; omega
      · have hkn : k = n := by omega
        subst hkn
        obtain ⟨l, hl⟩ : ∃ l, l = 1048576 - (k : Int) - (endS (ls.take k) 0) := ⟨_, rfl⟩
        rw [← hl] at hl0 ⊢
        clear hl h2
        go_wp2
        go_ret
        exact ⟨⟨l, rfl, .inr ⟨hl0, by omega, HSM.out, fun j hj => by have := HBS.out j hj; rw [endS_from]; omega⟩⟩, HD.out⟩
end Go.Proofs.Ythinbmjcdcmioaa

/-
  What a shape is: the tests of both sides. Conditions: the length is at most 2^40.
-/

namespace Go.Proofs.Ythinbmjcdcmioaa
open Go.RowKit

/-- What a place of a shape may be at most: what stands before it, 16 at the first one. -/
def prevS (xs : List Int) : Nat → Int
  | 0 => 16
  | k + 1 => nth xs k
/-- Is place k of a list one that a shape may have. -/
def shapeAt (xs : List Int) (k : Nat) : Prop := 1 ≤ nth xs k ∧ nth xs k ≤ prevS xs k
instance (xs : List Int) (k : Nat) : Decidable (shapeAt xs k) := by unfold shapeAt; infer_instance
def isShapeP (xs : List Int) : Prop := xs.length ≤ 16 ∧ ∀ k, k < xs.length → shapeAt xs k
def isShapeB (xs : List Int) : Bool := decide (xs.length ≤ 16) && (List.range xs.length).all fun k => decide (shapeAt xs k)
theorem isShapeB_iff (xs : List Int) : isShapeB xs = true ↔ isShapeP xs := by simp [isShapeB, isShapeP]
theorem isShapeB_P {xs : List Int} (h : isShapeB xs = true) : isShapeP xs := (isShapeB_iff xs).1 h
theorem isShapeB_true {xs : List Int} (h : isShapeP xs) : isShapeB xs = true := (isShapeB_iff xs).2 h
theorem isShapeB_false {xs : List Int} (h : ¬ isShapeP xs) : isShapeB xs = false := by
  cases hb : isShapeB xs with
  | false => rfl
  | true => exact absurd (isShapeB_P hb) h
theorem prevS_le {xs : List Int} : ∀ {k : Nat}, (∀ j, j < k → shapeAt xs j) → prevS xs k ≤ 16
  | 0, _ => Int.le_refl _
  | k + 1, h => Int.le_trans (h k (by omega)).2 (prevS_le fun j hj => h j (by omega))

set_option maxHeartbeats 800000 in
theorem specIsShape_any (A : Option Addr) (n c : Nat) (xs : List Int) (w : World) (hs : SI w A n xs) (hn : n ≤ 1099511627776) :
    Calls Try.prog 15 #[.slice A n c] w fun e w' => e = .returned (.bool (isShapeB xs)) ∧ Drawn w w' := by
  have HL := Lib.hid hs.1
  by_cases h16 : n ≤ 16
  · go_enter Try.func15, Try.ntmps15
    go_wp2
    go_loopw [3] (fun i wr => ∃ k : Nat, k ≤ n ∧ i = .int .i64 k ∧ Drawn w wr ∧ ∀ j, j < k → shapeAt xs j)
      (fun i _ => n - (intOf i).toNat)
    case atStart => exact ⟨0, Nat.zero_le _, rfl, Drawn.refl _, fun j hj => absurd hj (by omega)⟩
    case round =>
      obtain ⟨k, hk, rfl, hD, hall⟩ := hrel
      have HA := Lib.hid hall
      have HD := Lib.hid hD
      have hs := hD.si hs
      clear hall hD
      by_cases hlt : k < n
      · obtain ⟨b, o, e1, hb, hc⟩ := hs.at_ (by omega)
        subst e1
        have hc1 := hc k hlt
        obtain ⟨x, hx⟩ : ∃ x, x = nth xs k := ⟨_, rfl⟩
        rw [← hx] at hc1
        have HX := Lib.hid hx
        have hlI : (k : Int) < (n : Int) := by omega
        by_cases hr : 1 ≤ x ∧ x ≤ 16
        · obtain ⟨hx0, hx1⟩ := hr
          cases k with
          | zero =>
            have HG : Hid (shapeAt xs 0) := Lib.hid (show 1 ≤ nth xs 0 ∧ nth xs 0 ≤ 16 by omega)
            rw [Nat.add_zero] at hc1
            clear hc hs hx
            go_wp2_with fail
            go_quiet ((go_at_call 55; exact Calls.quiet_of (l1In_yes hx0 hx1 _)))
            go_wp2
            go_roundw
            case rel => exact ⟨1, by omega, by go_num, HD.out.drewN _, fun j hj => by rw [show j = 0 from Nat.lt_one_iff.1 hj]; exact HG.out⟩
            case measure => simp [intOf]; omega
          | succ k =>
            have hc0 := hc k (by omega)
            obtain ⟨y, hy⟩ : ∃ y, y = nth xs k := ⟨_, rfl⟩
            rw [← hy] at hc0
            have HY := Lib.hid hy
            have hwk : IntKind.i64.wrap (((k + 1 : Nat) : Int) - 1) = (k : Int) := by rw [show ((k + 1 : Nat) : Int) - 1 = (k : Int) by omega]; exact IntWalk.i64_in _ (by omega)
            have hkI : (k : Int) < (n : Int) := by omega
            have hk0 : (0 : Int) < ((k + 1 : Nat) : Int) := by omega
            clear hc hs hx hy
            by_cases hyx : y < x
            · have HF := Lib.hid (isShapeB_false (xs := xs) (fun h => by
                have := (h.2 (k + 1) (by have := HL.out; omega)).2
                have e1 : prevS xs (k + 1) = nth xs k := rfl
                have := HX.out; have := HY.out
                omega))
              go_wp2_with fail
              go_quiet ((go_at_call 55; exact Calls.quiet_of (l1In_yes hx0 hx1 _)))
              go_wp2
              go_ret
              exact ⟨ret_bool HF.out.symm, HD.out.drewN _⟩
            · have HG : Hid (shapeAt xs (k + 1)) := Lib.hid (by
                have e1 : prevS xs (k + 1) = nth xs k := rfl
                have := HX.out; have := HY.out
                unfold shapeAt
                omega)
              go_wp2_with fail
              go_quiet ((go_at_call 55; exact Calls.quiet_of (l1In_yes hx0 hx1 _)))
              go_wp2
              go_roundw
              case rel => exact ⟨k + 1 + 1, by omega, by go_num, HD.out.drewN _, fun j hj => by
                rcases Nat.lt_or_ge j (k + 1) with h | h
                · exact HA.out j h
                · obtain rfl : j = k + 1 := by omega
                  exact HG.out⟩
              case measure => simp [intOf]; omega
        · have HF := Lib.hid (isShapeB_false (xs := xs) (fun h => by
            have h1 := h.2 k (by have := HL.out; omega)
            have h2 := prevS_le HA.out
            unfold shapeAt at h1
            have := HX.out
            omega))
          clear hc hs hx
          go_wp2_with fail
          go_quiet ((go_at_call 55; exact Calls.quiet_of (l1In_no (by omega) _)))
          go_wp2
          go_ret
          exact ⟨ret_bool HF.out.symm, HD.out.drewN _⟩
      · have hkn : k = n := by omega
        subst hkn
        go_wp2
        go_ret
        exact ⟨ret_bool (isShapeB_true ⟨by have := HL.out; omega, by rw [HL.out]; exact HA.out⟩).symm, HD.out⟩
  · have HF := Lib.hid (isShapeB_false (xs := xs) (fun h => by have := h.1; have := HL.out; omega))
    have h16' : (16 : Int) < (n : Int) := by omega
    go_enter Try.func15, Try.ntmps15
    go_wp2
    go_ret
    exact ⟨ret_bool HF.out.symm, Drawn.refl _⟩
set_option maxHeartbeats 800000 in
theorem implIsShape_any (A : Option Addr) (n c : Nat) (xs : List Int) (w : World) (hs : SI w A n xs) (hn : n ≤ 1099511627776) :
    Calls Try.prog 17 #[.slice A n c] w fun e w' => e = .returned (.bool (isShapeB xs)) ∧ Drawn w w' := by
  have HL := Lib.hid hs.1
  by_cases h16 : n ≤ 16
  · go_enter Try.func17, Try.ntmps17
    go_wp2
    go_loopw [3, 11] (fun m i wr => ∃ k : Nat, k ≤ n ∧ i = .int .i64 k ∧ m = .int .i64 (prevS xs k) ∧ Drawn w wr ∧ ∀ j, j < k → shapeAt xs j)
      (fun _ i _ => n - (intOf i).toNat)
    case atStart => exact ⟨0, Nat.zero_le _, rfl, rfl, Drawn.refl _, fun j hj => absurd hj (by omega)⟩
    case round =>
      obtain ⟨k, hk, rfl, rfl, hD, hall⟩ := hrel
      have HA := Lib.hid hall
      have HD := Lib.hid hD
      have hs := hD.si hs
      clear hall hD
      by_cases hlt : k < n
      · obtain ⟨b, o, e1, hb, hc⟩ := hs.at_ (by omega)
        subst e1
        have hc1 := hc k hlt
        obtain ⟨x, hx⟩ : ∃ x, x = nth xs k := ⟨_, rfl⟩
        rw [← hx] at hc1
        have HX := Lib.hid hx
        obtain ⟨y, hy⟩ : ∃ y, y = prevS xs k := ⟨_, rfl⟩
        rw [← hy]
        have HY := Lib.hid hy
        have hlI : (k : Int) < (n : Int) := by omega
        clear hc hs hx hy
        by_cases hg : 1 ≤ x ∧ x ≤ y
        · obtain ⟨hg1, hg2⟩ := hg
          have HG : Hid (shapeAt xs k) := Lib.hid (by have := HX.out; have := HY.out; unfold shapeAt; omega)
          go_wp2
          go_roundw
          case rel => exact ⟨k + 1, by omega, by go_num, by rw [HX.out]; rfl, HD.out, fun j hj => by
            rcases Nat.lt_or_ge j k with h | h
            · exact HA.out j h
            · obtain rfl : j = k := by omega
              exact HG.out⟩
          case measure => simp [intOf]; omega
        · have HF := Lib.hid (isShapeB_false (xs := xs) (fun h => by
            have h1 := h.2 k (by have := HL.out; omega)
            unfold shapeAt at h1
            have := HX.out; have := HY.out
            omega))
          by_cases hx1 : x < 1
          · go_wp2
            go_ret
            exact ⟨ret_bool HF.out.symm, HD.out⟩
          · have hyx : y < x := by omega
            clear hg
            go_wp2
            go_ret
            exact ⟨ret_bool HF.out.symm, HD.out⟩
      · have hkn : k = n := by omega
        subst hkn
        go_wp2
        go_ret
        exact ⟨ret_bool (isShapeB_true ⟨by have := HL.out; omega, by rw [HL.out]; exact HA.out⟩).symm, HD.out⟩
  · have HF := Lib.hid (isShapeB_false (xs := xs) (fun h => by have := h.1; have := HL.out; omega))
    have h16' : (16 : Int) < (n : Int) := by omega
    go_enter Try.func17, Try.ntmps17
    go_wp2
    go_ret
    exact ⟨ret_bool HF.out.symm, Drawn.refl _⟩
end Go.Proofs.Ythinbmjcdcmioaa

/-
  Copying a slice of numbers into an array. Conditions: the slice is no longer than the array.
-/


namespace Go.Proofs.Ythinbmjcdcmioaa
open Go.RowKit

/-- A list with zeros behind it. -/
def padN (N : Nat) (xs : List Int) : List Int := xs ++ List.replicate (N - xs.length) 0
theorem padN_len {N : Nat} {xs : List Int} (h : xs.length ≤ N) : (padN N xs).length = N := by simp [padN]; omega
theorem padN_nth (N : Nat) (xs : List Int) (k : Nat) : nth (padN N xs) k = nth xs k := by
  unfold padN nth
  rw [List.getD_eq_getElem?_getD, List.getD_eq_getElem?_getD]
  by_cases h : k < xs.length
  · rw [List.getElem?_append_left h]
  · rw [List.getElem?_append_right (by omega), List.getElem?_eq_none (l := xs) (by omega), List.getElem?_replicate]
    split <;> rfl
theorem nth_out {xs : List Int} {k : Nat} (h : xs.length ≤ k) : nth xs k = 0 := by
  unfold nth
  rw [List.getD_eq_getElem?_getD, List.getElem?_eq_none h]; rfl
theorem Try.infoIntA : (Try.prog.info? 3).map (·.size) = some 1 := by kernel_rfl
/-- 'copy(a[:], s)' where the array a holds zeros. -/
theorem wpList_copy_arr {ops : Array Oper} {rest : List Oper} {o : Oper} {a : Act} {w : World} {Q : Exit → Act → World → Prop} (hgd : o.guard = none) (d s : Operand)
    (ho : o.op = .call { callee := .builtin .copy, args := #[d, s], argTypes := #[22, 22] }) (g N : Nat) (A : Option Addr) (n c : Nat) (hd : a.eval d = .slice (some ⟨g, 0, none⟩) N N) (hs : a.eval s = .slice A n c)
    (t : TypeId) (xs : List Int) (hblk : Blk w g t ((List.replicate N (0 : Int)).map (Value.int .i64)).toArray) (hsi : SI w A n xs) (hle : n ≤ N)
    (hK : ∀ w', Blk w' g t ((padN N xs).map (Value.int .i64)).toArray → w.grownBy w' (some g) → wpList Try.prog ops Q rest (a.put o.dst (goInt n)) w') : wpList Try.prog ops Q (o :: rest) a w := by
  have hl := hsi.1
  by_cases h0 : n = 0
  · subst h0
    obtain rfl : xs = [] := List.eq_nil_of_length_eq_zero hl
    exact Go.wpList_copy_nothing hgd d s 22 22 ho 3 Try.underlying22 Try.infoIntA (some ⟨g, 0, none⟩) A N N 0 c hd hs (by simp) (hK w (by simpa [padN] using hblk) (World.grownBy.refl _ _))
  · obtain ⟨b, off, rfl, hb, hc⟩ := hsi.2 (by omega)
    have hE : (((List.replicate N (0 : Int)).map (Value.int .i64)).toArray.toList.take 0 ++ (xs.map (Value.int .i64) ++ ((List.replicate N (0 : Int)).map (Value.int .i64)).toArray.toList.drop (0 + (xs.map (Value.int .i64)).length))).toArray = ((padN N xs).map (Value.int .i64)).toArray := by
      simp [padN, List.drop_replicate]
    refine Go.wpList_copy_own hgd d s 22 22 ho 3 Try.underlying22 Try.infoIntA g 0 N N ⟨b, off, none⟩ n c hd hs _ t hblk (xs.map (Value.int .i64)) (by simp [hl]; exact (Nat.min_eq_left hle).symm) ?_ (by simp [hl]; omega) (ints_oneCell _ _) ?_
    · intro j v hj
      have hjl : j < xs.length := by
        rcases Nat.lt_or_ge j xs.length with h | h
        · exact h
        · rw [List.getElem?_eq_none (by simpa using h)] at hj; cases hj
      rw [List.getElem?_map, nth_get? hjl] at hj
      rw [add_pt, hc j (by omega)]
      exact hj
    · rw [hE]
      have hk := hK (w.setRow g ((padN N xs).map (Value.int .i64)).toArray) (hblk.row _) (grownBy_setRow w g _)
      simpa [hl] using hk
end Go.Proofs.Ythinbmjcdcmioaa

/-
  The program's own test for permutations, as arrays: contracts. Conditions: the length is at most 2^40.
-/

namespace Go.Proofs.Ythinbmjcdcmioaa
open Go.RowKit

/-- An array of integers as a value. -/
abbrev arrC (l : List Int) : Array Value := #[.int .i64 (nth l 0), .int .i64 (nth l 1), .int .i64 (nth l 2), .int .i64 (nth l 3), .int .i64 (nth l 4), .int .i64 (nth l 5), .int .i64 (nth l 6)]
abbrev arr (l : List Int) : Value := .agg (arrC l)

theorem isPermSize_any (a : Int) (w : World) :
    Calls Try.prog 107 #[.int .i64 a] w fun e w' => e = .returned (.bool (decide (1 ≤ a) && decide (a ≤ 7))) ∧ w = w' := by
  by_cases h1 : 1 ≤ a
  · by_cases h2 : a ≤ 7
    · go_enter Try.func107, Try.ntmps107
      go_wp2
      go_ret
      exact ⟨ret_bool (by simp [h1, h2]), rfl⟩
    · go_enter Try.func107, Try.ntmps107
      go_wp2
      go_ret
      exact ⟨ret_bool (by simp [h2]), rfl⟩
  · have h1' : a < 1 := by omega
    go_enter Try.func107, Try.ntmps107
    go_wp2
    go_ret
    exact ⟨ret_bool (by simp; intro; omega), rfl⟩
theorem isPermSize_yes {a : Int} (h : 1 ≤ a) (h' : a ≤ 7) (w : World) :
    Calls Try.prog 107 #[.int .i64 a] w fun e w' => e = .returned (.bool true) ∧ w = w' := by
  have := isPermSize_any a w
  simpa [h, h'] using this
theorem isPermSize_no {a : Int} (h : a < 1 ∨ 7 < a) (w : World) :
    Calls Try.prog 107 #[.int .i64 a] w fun e w' => e = .returned (.bool false) ∧ w = w' := by
  have e : (decide (1 ≤ a) && decide (a ≤ 7)) = false := by simp; omega
  have := isPermSize_any a w
  rwa [e] at this

set_option maxHeartbeats 1000000 in
theorem identityArray_any (w : World) :
    Calls Try.prog 108 #[] w fun e w' => e = .returned (.agg #[.int .i64 0, .int .i64 1, .int .i64 2, .int .i64 3, .int .i64 4, .int .i64 5, .int .i64 6]) ∧ Below w.heap.size w w' := by
  go_enter Try.func108, Try.ntmps108
  go_wp2
  go_rounds 8
  go_returns
  exact ⟨rfl, by go_grown⟩

/-- The array of a permutation, k places filled: behind them each number stands at its place. -/
def fillA (xs : List Int) (k : Nat) : List Int := (List.range 7).map fun (j : Nat) => if j < k then nth xs j else (j : Int)
theorem fillA_len (xs : List Int) (k : Nat) : (fillA xs k).length = 7 := by simp [fillA]
theorem fillA_nth (xs : List Int) (k j : Nat) (hj : j < 7) : nth (fillA xs k) j = if j < k then nth xs j else (j : Int) := by
  rw [nth_get (by rw [fillA_len]; exact hj)]
  simp [fillA]
/-- Which numbers are among the first k. -/
def seenC (xs : List Int) (k : Nat) : Array Value := ((List.range 7).map fun (v : Nat) => Value.bool (hasB (xs.take k) (v : Int))).toArray
theorem lt7 {k : Nat} (h : k < 7) : k = 0 ∨ k = 1 ∨ k = 2 ∨ k = 3 ∨ k = 4 ∨ k = 5 ∨ k = 6 := by omega
theorem arrC_get (l : List Int) (k : Nat) (h : k < 7) : (arrC l)[k]? = some (.int .i64 (nth l k)) := by
  rcases lt7 h with rfl | rfl | rfl | rfl | rfl | rfl | rfl <;> rfl
theorem arrC_set (l : List Int) (k : Nat) (h : k < 7) (x : Int) (hl : l.length = 7) : (arrC l).setIfInBounds k (.int .i64 x) = arrC (l.set k x) := by
  match l, hl with
  | [a, b, c, d, e, f, g], _ =>
    rcases lt7 h with rfl | rfl | rfl | rfl | rfl | rfl | rfl <;> rfl
theorem arrC_fill (xs : List Int) (k : Nat) (h : k < 7) : (arrC (fillA xs k)).setIfInBounds k (.int .i64 (nth xs k)) = arrC (fillA xs (k + 1)) := by
  rw [arrC_set _ k h _ (fillA_len _ _)]
  congr 1
  apply List.ext_getElem (by simp [fillA])
  intro j h1 h2
  rw [List.getElem_set]
  simp only [fillA, List.getElem_map, List.getElem_range]
  by_cases e : k = j
  · subst e; simp
  · rw [if_neg e]
    by_cases h3 : j < k
    · rw [if_pos h3, if_pos (by omega)]
    · rw [if_neg h3, if_neg (by omega)]
theorem seenC_zero (xs : List Int) : seenC xs 0 = #[.bool false, .bool false, .bool false, .bool false, .bool false, .bool false, .bool false] := by
  simp [seenC, hasB, List.range_succ]
theorem seenC_get (xs : List Int) (k : Nat) (x : Int) (h0 : 0 ≤ x) (h7 : x < 7) : (seenC xs k)[x.toNat]? = some (.bool (hasB (xs.take k) x)) := by
  have e : ((x.toNat : Nat) : Int) = x := by omega
  simp only [seenC, List.getElem?_toArray, List.getElem?_map]
  rw [List.getElem?_range (by omega)]
  simp [e]
theorem seenC_set (xs : List Int) (k : Nat) (hk : k < xs.length) (h0 : 0 ≤ nth xs k) : (seenC xs k).setIfInBounds (nth xs k).toNat (.bool true) = seenC xs (k + 1) := by
  apply Array.ext_getElem?
  intro j
  rw [Array.getElem?_setIfInBounds]
  by_cases e : (nth xs k).toNat = j
  · rw [if_pos e]
    by_cases hj : j < 7
    · rw [if_pos (by simp [seenC]; omega)]
      simp only [seenC, List.getElem?_toArray, List.getElem?_map]
      rw [List.getElem?_range hj, take_nth hk]
      have : ((j : Nat) : Int) = nth xs k := by omega
      simp [hasB, this]
    · rw [if_neg (by simp [seenC]; omega)]
      symm
      apply Array.getElem?_eq_none
      simp [seenC]; omega
  · rw [if_neg e]
    by_cases hj : j < 7
    · simp only [seenC, List.getElem?_toArray, List.getElem?_map]
      rw [List.getElem?_range hj, take_nth hk]
      have : ¬ ((j : Nat) : Int) = nth xs k := by omega
      simp [hasB, this]
    · rw [Array.getElem?_eq_none (by simp [seenC]; omega), Array.getElem?_eq_none (by simp [seenC]; omega)]

abbrev zeroC : Array Value := #[.int .i64 0, .int .i64 0, .int .i64 0, .int .i64 0, .int .i64 0, .int .i64 0, .int .i64 0]

theorem Try.infoArr : (Try.prog.info? 93).map (·.size) = some 7 := by kernel_rfl
theorem Try.undArr : Try.prog.underlying 93 = some (.array 7 3) := Try.underlying93
theorem zeroC_one : zeroC.all (·.oneCell') = true := by simp [Value.oneCell']
theorem arrC_one (l : List Int) : (arrC l).all (·.oneCell') = true := by simp [Value.oneCell']
set_option maxHeartbeats 2000000 in
theorem arrayOf_any (A : Option Addr) (n c : Nat) (xs : List Int) (w : World) (hs : SI w A n xs) (hn : n ≤ 1099511627776) :
    Calls Try.prog 96 #[.slice A n c] w fun e w' => (isPermB xs = true ∧ e = .returned (.tuple #[arr (fillA xs n), .bool true]) ∨ isPermB xs = false ∧ e = .returned (.tuple #[.agg zeroC, .bool false])) ∧ Below w.heap.size w w' := by
  have hl := hs.1
  by_cases hsz : 1 ≤ n ∧ n ≤ 7
  · obtain ⟨hs1, hs7⟩ := hsz
    go_enter Try.func96, Try.ntmps96
    go_wp2_with (first | (go_at_call 107; refine (isPermSize_yes (by omega) (by omega) _).mono ?_; rintro e w1 ⟨rfl, rfl⟩) | (go_at_call 108; refine (identityArray_any _).mono ?_; rintro e w2 ⟨rfl, hb2⟩))
    have hbR : Blk w2 w.heap.size 93 zeroC := ((Blk.new w 93 zeroC).below hb2 (by simp))
    have hbw : Below w.heap.size w w2 := ((Below.refl _ _).alloc (Nat.le_refl _) _).trans (hb2.mono (by simp))
    have hb0 := Blk.new w2 93 (arrC (fillA xs 0))
    have hb1 := Blk.new (w2.alloc (.cells #[.int .i64 0, .int .i64 1, .int .i64 2, .int .i64 3, .int .i64 4, .int .i64 5, .int .i64 6] 93)) 101 (seenC xs 0)
    rw [show (w2.alloc (.cells #[.int .i64 0, .int .i64 1, .int .i64 2, .int .i64 3, .int .i64 4, .int .i64 5, .int .i64 6] 93)).heap.size = w2.heap.size + 1 from by simp, seenC_zero] at hb1
    have HW2 : Hid (w.heap.size + 1 ≤ w2.heap.size) := Lib.hid (by have := hb2.size; simpa using this)
    clear hb2
    go_loopw [16] (fun i wr => ∃ k : Nat, k ≤ n ∧ i = .int .i64 k ∧ Blk wr w.heap.size 93 zeroC ∧ Blk wr w2.heap.size 93 (arrC (fillA xs k)) ∧ Blk wr (w2.heap.size + 1) 101 (seenC xs k) ∧ Below w.heap.size w wr ∧ ∀ j, j < k → goodAt xs j)
      (fun i _ => n - (intOf i).toNat)
    case atStart =>
      refine ⟨0, Nat.zero_le _, rfl, (hbR.alloc _).alloc _, ?_, ?_, ?_, fun j hj => absurd hj (by omega)⟩
      · exact hb0.alloc _
      · rw [seenC_zero]; exact hb1
      · exact (hbw.alloc hbw.size _).alloc (by have := hbw.size; simp; omega) _
    case round =>
      obtain ⟨k, hk, rfl, hR, hG, hS, hB, hall⟩ := hrel
      have HA := Lib.hid hall
      have HL := Lib.hid hl
      have HB := Lib.hid hB
      have HR := Lib.hid hR
      have HG := Lib.hid hG
      have HS := Lib.hid hS
      clear hall hl hB hR hbw hb0 hb1 hbR hG hS
      by_cases hlt : k < n
      · obtain ⟨b, o, e1, hb, hc⟩ := hs.at_ (by omega)
        have hc1 : wr.cell? ⟨b, o + k, none⟩ = some (.int .i64 (nth xs k)) := (HB.out.cell (p := ⟨b, o + k, none⟩) hb).trans (hc k hlt)
        subst e1
        obtain ⟨x, hx⟩ : ∃ x, x = nth xs k := ⟨_, rfl⟩
        rw [← hx] at hc1
        have HX := Lib.hid hx
        clear hc hs hx
        by_cases hx0 : x < 0
        · have hf : isPermB xs = false := by
            refine isPermB_false fun hp => ?_
            obtain ⟨g1, _, _⟩ := (hp.2.2 k (by have := HL.out; omega))
            rw [← HX.out] at g1; omega
          have HF := Lib.hid hf
          clear hf
          go_wp2_with (refine wpList_store_blk rfl 93 (.tmp 2) (.tmp 34) rfl w.heap.size zeroC rfl rfl 93 zeroC HR.out Try.infoArr rfl zeroC_one ?_; intro w3 hR3 hg3)
          refine bodyPost_ret (results_blk_tmp Try.results96 _ _ _ _ _ 7 3 rfl hR3 Try.undArr Try.infoArr) rfl ?_
          exact ⟨.inr ⟨HF.out, rfl⟩, HB.out.grown hg3 HB.out.size (by rintro _ ⟨⟩; exact Nat.le_refl _)⟩
        · by_cases hxn : (n : Int) ≤ x
          · have hf : isPermB xs = false := by
              refine isPermB_false fun hp => ?_
              obtain ⟨_, g1, _⟩ := (hp.2.2 k (by have := HL.out; omega))
              rw [← HX.out, HL.out] at g1; omega
            have HF := Lib.hid hf
            clear hf
            go_wp2_with (refine wpList_store_blk rfl 93 (.tmp 2) (.tmp 34) rfl w.heap.size zeroC rfl rfl 93 zeroC HR.out Try.infoArr rfl zeroC_one ?_; intro w3 hR3 hg3)
            refine bodyPost_ret (results_blk_tmp Try.results96 _ _ _ _ _ 7 3 rfl hR3 Try.undArr Try.infoArr) rfl ?_
            exact ⟨.inr ⟨HF.out, rfl⟩, HB.out.grown hg3 HB.out.size (by rintro _ ⟨⟩; exact Nat.le_refl _)⟩
          · have hx0' : 0 ≤ x := by omega
            have hx7 : x < 7 := by omega
            have hcS : wr.cell? ⟨w2.heap.size + 1, x.toNat, none⟩ = some (.bool (hasB (xs.take k) x)) := (HS.out.cell _).trans (seenC_get xs k x hx0' hx7)
            have hfS := HS.out.frozen x.toNat
            cases hh : hasB (xs.take k) x with
            | true =>
              rw [hh] at hcS
              have hf : isPermB xs = false := by
                refine isPermB_false fun hp => ?_
                obtain ⟨_, _, g3⟩ := (hp.2.2 k (by have := HL.out; omega))
                rw [← HX.out, hh] at g3; cases g3
              have HF := Lib.hid hf
              clear hf hh
              go_wp2_with (refine wpList_store_blk rfl 93 (.tmp 2) (.tmp 34) rfl w.heap.size zeroC rfl rfl 93 zeroC HR.out Try.infoArr rfl zeroC_one ?_; intro w3 hR3 hg3)
              refine bodyPost_ret (results_blk_tmp Try.results96 _ _ _ _ _ 7 3 rfl hR3 Try.undArr Try.infoArr) rfl ?_
              exact ⟨.inr ⟨HF.out, rfl⟩, HB.out.grown hg3 HB.out.size (by rintro _ ⟨⟩; exact Nat.le_refl _)⟩
            | false =>
              rw [hh] at hcS
              have HGd : Hid (goodAt xs k) := Lib.hid (by
                have e1 := HX.out
                have e3 := HL.out
                exact ⟨by omega, by omega, by rw [← e1]; exact hh⟩)
              clear hh
              have hS' := (HS.out.set_ x.toNat (.bool true))
              have hG' := ((HG.out.far (p := ⟨w2.heap.size + 1, x.toNat, none⟩) (by show w2.heap.size ≠ w2.heap.size + 1; omega) (.bool true)).set_ k (.int .i64 x))
              have hR' := ((HR.out.far (p := ⟨w2.heap.size + 1, x.toNat, none⟩) (by have := HW2.out; show w.heap.size ≠ w2.heap.size + 1; omega) (.bool true)).far (p := ⟨w2.heap.size, k, none⟩) (by have := HW2.out; show w.heap.size ≠ w2.heap.size; omega) (.int .i64 x))
              have HS2 := Lib.hid (hS'.far (p := ⟨w2.heap.size, k, none⟩) (by show w2.heap.size + 1 ≠ w2.heap.size; omega) (.int .i64 x))
              have HG2 := Lib.hid hG'
              have HR2 := Lib.hid hR'
              have HB2 := Lib.hid ((HB.out.setCell (p := ⟨w2.heap.size + 1, x.toNat, none⟩) (by have := HW2.out; show w.heap.size ≤ w2.heap.size + 1; omega) (.bool true)).setCell (p := ⟨w2.heap.size, k, none⟩) (by have := HW2.out; show w.heap.size ≤ w2.heap.size; omega) (.int .i64 x))
              have hcG : wr.cell? ⟨w2.heap.size, k, none⟩ = some (.int .i64 (nth (fillA xs k) k)) := (HG.out.cell _).trans (arrC_get _ k (by omega))
              have hfG := HG.out.frozen k
              clear hS' hG' hR'
              go_wp2
              go_roundw
              case rel =>
                have e1 := HX.out
                have e3 := HL.out
                refine ⟨k + 1, by omega, by go_num, HR2.out, ?_, ?_, HB2.out, fun j hj => ?_⟩
                · have := HG2.out
                  rw [e1, arrC_fill xs k (by omega), ← e1] at this
                  exact this
                · have := HS2.out
                  rw [e1, seenC_set xs k (by omega) (by omega), ← e1] at this
                  exact this
                · rcases Nat.lt_or_ge j k with h | h
                  · exact HA.out j h
                  · obtain rfl : j = k := by omega
                    exact HGd.out
              case measure => simp [intOf]; omega
      · have hkn : k = n := by omega
        subst hkn
        have hp : isPermB xs = true := isPermB_true ⟨by have := HL.out; omega, by have := HL.out; omega, by rw [HL.out]; exact HA.out⟩
        have HP := Lib.hid hp
        clear hp
        go_wp2_with (first | (refine wpList_load_blk rfl 93 (.tmp 4) rfl w2.heap.size rfl 93 (arrC (fillA xs k)) 7 3 HG.out Try.undArr Try.infoArr ?_) | (refine wpList_store_blk rfl 93 (.tmp 2) (.tmp 41) rfl w.heap.size (arrC (fillA xs k)) rfl rfl 93 zeroC HR.out Try.infoArr rfl (arrC_one _) ?_; intro w3 hR3 hg3))
        refine bodyPost_ret (results_blk_tmp Try.results96 _ _ _ _ _ 7 3 rfl hR3 Try.undArr Try.infoArr) rfl ?_
        exact ⟨.inl ⟨HP.out, rfl⟩, HB.out.grown hg3 HB.out.size (by rintro _ ⟨⟩; exact Nat.le_refl _)⟩
  · go_enter Try.func96, Try.ntmps96
    go_wp2_with (go_at_call 107; refine (isPermSize_no (by omega) _).mono ?_; rintro e w1 ⟨rfl, rfl⟩)
    go_returns
    refine ⟨.inr ⟨isPermB_false (fun hp => hsz ⟨by have := hp.1; omega, by have := hp.2.1; omega⟩), rfl⟩, by go_grown⟩

theorem arrayOf_yes {A : Option Addr} {n : Nat} (c : Nat) {xs : List Int} {w : World} (hs : SI w A n xs) (hn : n ≤ 1099511627776) (hp : isPermB xs = true) :
    Calls Try.prog 96 #[.slice A n c] w fun e w' => e = .returned (.tuple #[arr (fillA xs n), .bool true]) ∧ Below w.heap.size w w' := by
  refine (arrayOf_any A n c xs w hs hn).mono fun e w' ⟨he, hb⟩ => ⟨?_, hb⟩
  rcases he with ⟨_, he⟩ | ⟨h, _⟩
  · exact he
  · rw [hp] at h; cases h
theorem arrayOf_no {A : Option Addr} {n : Nat} (c : Nat) {xs : List Int} {w : World} (hs : SI w A n xs) (hn : n ≤ 1099511627776) (hp : isPermB xs = false) :
    Calls Try.prog 96 #[.slice A n c] w fun e w' => e = .returned (.tuple #[.agg zeroC, .bool false]) ∧ Below w.heap.size w w' := by
  refine (arrayOf_any A n c xs w hs hn).mono fun e w' ⟨he, hb⟩ => ⟨?_, hb⟩
  rcases he with ⟨h, _⟩ | ⟨_, he⟩
  · rw [hp] at h; cases h
  · exact he

set_option maxHeartbeats 1000000 in
theorem implIsPerm_any (A : Option Addr) (n c : Nat) (xs : List Int) (w : World) (hs : SI w A n xs) (hn : n ≤ 1099511627776) :
    Calls Try.prog 89 #[.slice A n c] w fun e w' => e = .returned (.bool (isPermB xs)) ∧ Below w.heap.size w w' := by
  cases hp : isPermB xs with
  | true =>
    have HP := Lib.hid hp
    clear hp
    go_enter Try.func89, Try.ntmps89
    go_wp2_with (go_at_call 96; refine (arrayOf_yes c hs hn HP.out).mono ?_; rintro e w1 ⟨rfl, hb1⟩)
    go_ret
    exact ⟨rfl, hb1.alloc hb1.size _⟩
  | false =>
    have HP := Lib.hid hp
    clear hp
    go_enter Try.func89, Try.ntmps89
    go_wp2_with (go_at_call 96; refine (arrayOf_no c hs hn HP.out).mono ?_; rintro e w1 ⟨rfl, hb1⟩)
    go_ret
    exact ⟨rfl, hb1.alloc hb1.size _⟩
end Go.Proofs.Ythinbmjcdcmioaa

/-
  Contracts of the program's functions: copies of arrays, identity, longest, products, inverses. Conditions: lengths below 2^40.
-/




namespace Go.Proofs.Ythinbmjcdcmioaa
open Go.RowKit

set_option maxHeartbeats 400000 in
theorem clone_any (A : Option Addr) (n c : Nat) (xs : List Int) (w : World) (hs : SI w A n xs) (hA : A = none → n = 0 ∧ c = 0) (hn : n ≤ 1099511627776) :
    Calls Try.prog 98 #[.slice A n c] w fun e w' => Fresh w w' e xs := by
  have hl := hs.1
  cases A with
  | none =>
    obtain ⟨rfl, rfl⟩ := hA rfl
    have hx : xs = [] := List.eq_nil_of_length_eq_zero hl
    subst hx
    have hnil := fun wx => Lib.run_eql_slice_nil (P := Try.prog) wx 22 3 none 0 0 0 0 Try.underlying22
    go_enter Try.func98, Try.ntmps98
    go_wp2
    go_ret
    exact Fresh.nil_ret (Below.refl _ _)
  | some a =>
    have hnil := fun wx => Lib.run_eql_slice_nil (P := Try.prog) wx 22 3 (some a) n c 0 0 Try.underlying22
    have HL := Lib.hid hl
    clear hl
    go_enter Try.func98, Try.ntmps98
    go_wp2_with (at_builtin; refine wpList_append_all rfl (.tmp 5) (.tmp 6) rfl w.heap.size (some ⟨w.heap.size, 0, none⟩) 0 0 [] (some a) n c xs rfl rfl ((Own.empty w).wide (Nat.le_refl _) (by simp)) (hs.alloc _) (by simp) (by omega) hn ?_; intro A' c' w1 ho1 _ hb1)
    go_ret
    have e := HL.out
    subst e
    exact ⟨A', _, c', rfl, by simpa using ho1, (Below.alloc_self _ _).trans hb1⟩

/-- A slice of an array that lies in a block. -/
theorem SI.of_arr {w : World} {g t n : Nat} {l : List Int} (h : Blk w g t (arrC l)) (hn : n ≤ 7) (hl : l.length = 7) : SI w (some ⟨g, 0, none⟩) n (l.take n) := by
  refine ⟨by simp; omega, fun _ => ⟨g, 0, rfl, h.lt, fun k hk => ?_⟩⟩
  rw [nth_take hk, Nat.zero_add, h.cell, arrC_get l k (by omega)]

theorem Try.arrLen : Try.prog.arrayLen 93 = 7 := by kernel_rfl
theorem Try.arrElem : Try.prog.elem 93 = 3 := by kernel_rfl
theorem sliceArr_to (a : Addr) (n : Nat) (hn : n ≤ 7) (w : World) : (Instr.sliceAt 93 (.pointer (some a)) none (some (.int .i64 n)) none).run Try.prog w = .ok (.slice (some a) n 7) w := by
  obtain ⟨i0, hi, hz0, hz1, hz2⟩ := info_parts Try.infoInt
  have h := run_sliceAt_array_h (P := Try.prog) w 93 a (by rw [Try.arrLen, Try.arrElem]; exact Try.undArr) .i64 (n : Int) (by omega) (by rw [Try.arrLen]; omega)
  rw [h, Try.arrLen, Try.arrElem]
  simp [sizeOf, typeInfo, hi, slicedAt, Addr.add]
theorem sliceArr_from (a : Addr) (n : Nat) (hn : n ≤ 7) (w : World) : (Instr.sliceAt 93 (.pointer (some a)) (some (.int .i64 n)) none none).run Try.prog w = .ok (.slice (some (if 7 = n then a else a.add n)) (7 - n) (7 - n)) w := by
  obtain ⟨i0, hi, hz0, hz1, hz2⟩ := info_parts Try.infoInt
  have h := run_sliceAt_array_l (P := Try.prog) w 93 a (by rw [Try.arrLen, Try.arrElem]; exact Try.undArr) .i64 (n : Int) (by omega) (by rw [Try.arrLen]; omega)
  rw [h, Try.arrLen, Try.arrElem]
  simp [sizeOf, typeInfo, hi, slicedAt, hz1]

set_option maxHeartbeats 400000 in
theorem list_any (l : List Int) (n : Nat) (w : World) (hl : l.length = 7) (hn : n ≤ 7) :
    Calls Try.prog 105 #[arr l, .int .i64 n] w fun e w' => Fresh w w' e (l.take n) := by
  have HL := Lib.hid hl
  clear hl
  have hsl := fun wx => sliceArr_to ⟨w.heap.size, 0, none⟩ n hn wx
  go_enter Try.func105, Try.ntmps105
  go_wp2_with fail
  refine (clone_any _ _ _ _ _ (SI.of_arr (Blk.new w 93 (arrC l)) hn HL.out) (by intro h; cases h) (by omega)).mono ?_
  rintro e w1 ⟨A1, n1, c1, rfl, ho1, hb1⟩
  go_wp2
  go_ret
  exact Fresh.after (Below.alloc_self _ _) ⟨A1, n1, c1, rfl, ho1, hb1⟩

end Go.Proofs.Ythinbmjcdcmioaa

/-
  The lengths of rows as an array of sixteen numbers, and back. Conditions: lengths below 2^40.
-/



namespace Go.Proofs.Ythinbmjcdcmioaa
open Go.RowKit

abbrev arrD (l : List Int) : Array Value := #[.int .i64 (nth l 0), .int .i64 (nth l 1), .int .i64 (nth l 2), .int .i64 (nth l 3), .int .i64 (nth l 4), .int .i64 (nth l 5), .int .i64 (nth l 6), .int .i64 (nth l 7), .int .i64 (nth l 8), .int .i64 (nth l 9), .int .i64 (nth l 10), .int .i64 (nth l 11), .int .i64 (nth l 12), .int .i64 (nth l 13), .int .i64 (nth l 14), .int .i64 (nth l 15)]
abbrev arr16 (l : List Int) : Value := .agg (arrD l)
theorem lt16 {k : Nat} (h : k < 16) : k = 0 ∨ k = 1 ∨ k = 2 ∨ k = 3 ∨ k = 4 ∨ k = 5 ∨ k = 6 ∨ k = 7 ∨ k = 8 ∨ k = 9 ∨ k = 10 ∨ k = 11 ∨ k = 12 ∨ k = 13 ∨ k = 14 ∨ k = 15 := by omega
theorem arrD_get (l : List Int) (k : Nat) (h : k < 16) : (arrD l)[k]? = some (.int .i64 (nth l k)) := by
  rcases lt16 h with rfl | rfl | rfl | rfl | rfl | rfl | rfl | rfl | rfl | rfl | rfl | rfl | rfl | rfl | rfl | rfl <;> rfl
theorem arrD_of {l : List Int} (h : l.length = 16) : (l.map (Value.int .i64)).toArray = arrD l := by
  apply Array.ext_getElem?
  intro k
  by_cases hk : k < 16
  · rw [arrD_get l k hk]
    simp only [List.getElem?_toArray, List.getElem?_map]
    rw [nth_get? (by omega)]; rfl
  · rw [Array.getElem?_eq_none (by simp [h]; omega), Array.getElem?_eq_none (by simp; omega)]
theorem arrD_set (l : List Int) (k : Nat) (_ : k < 16) (x : Int) (hl : l.length = 16) : (arrD l).setIfInBounds k (.int .i64 x) = arrD (l.set k x) := by
  rw [← arrD_of hl, ← arrD_of (l := l.set k x) (by simpa using hl)]
  simp [List.map_set]
theorem arrD_one (l : List Int) : (arrD l).all (·.oneCell') = true := by simp [Value.oneCell']
theorem Try.infoRows : (Try.prog.info? 61).map (·.size) = some 16 := by kernel_rfl
theorem Try.undRows : Try.prog.underlying 61 = some (.array 16 3) := Try.underlying61
theorem Try.lenRows : Try.prog.arrayLen 61 = 16 := by kernel_rfl
theorem Try.elemRows : Try.prog.elem 61 = 3 := by kernel_rfl
theorem SI.of_rows {w : World} {g t n : Nat} {l : List Int} (h : Blk w g t (arrD l)) (hn : n ≤ 16) (hl : l.length = 16) : SI w (some ⟨g, 0, none⟩) n (l.take n) := by
  refine ⟨by simp; omega, fun _ => ⟨g, 0, rfl, h.lt, fun k hk => ?_⟩⟩
  rw [nth_take hk, Nat.zero_add, h.cell, arrD_get l k (by omega)]
theorem sliceRows_to (a : Addr) (n : Nat) (hn : n ≤ 16) (w : World) : (Instr.sliceAt 61 (.pointer (some a)) none (some (.int .i64 n)) none).run Try.prog w = .ok (.slice (some a) n 16) w := by
  obtain ⟨i0, hi, hz0, hz1, hz2⟩ := info_parts Try.infoInt
  have h := run_sliceAt_array_h (P := Try.prog) w 61 a (by rw [Try.lenRows, Try.elemRows]; exact Try.undRows) .i64 (n : Int) (by omega) (by rw [Try.lenRows]; omega)
  rw [h, Try.lenRows, Try.elemRows]
  simp [sizeOf, typeInfo, hi, slicedAt, Addr.add]
abbrev zero16 : Array Value := #[.int .i64 0, .int .i64 0, .int .i64 0, .int .i64 0, .int .i64 0, .int .i64 0, .int .i64 0, .int .i64 0, .int .i64 0, .int .i64 0, .int .i64 0, .int .i64 0, .int .i64 0, .int .i64 0, .int .i64 0, .int .i64 0]
set_option maxRecDepth 100000 in
set_option maxHeartbeats 800000 in
theorem rowLengthsOf_any (A : Option Addr) (n c : Nat) (xs : List Int) (w : World) (hs : SI w A n xs) (hn : n ≤ 16) :
    Calls Try.prog 58 #[.slice A n c] w fun e w' => e = .returned (arr16 (padN 16 xs)) ∧ Below w.heap.size w w' := by
  have HL := Lib.hid hs.1
  have HS := Lib.hid hs
  clear hs
  obtain ⟨t, ht⟩ : ∃ t, t = 61 := ⟨_, rfl⟩
  have hz : zero16 = ((List.replicate 16 (0 : Int)).map (Value.int .i64)).toArray := rfl
  have hz0 : Blk ((w.alloc (.cells zero16 61)).alloc (.cells zero16 61)) (w.heap.size + 1) 61 ((List.replicate 16 (0 : Int)).map (Value.int .i64)).toArray := by
    rw [← hz]
    have := Blk.new (w.alloc (.cells zero16 61)) 61 zero16
    rwa [show (w.alloc (.cells zero16 61)).heap.size = w.heap.size + 1 from by simp] at this
  have hz1 : Blk ((w.alloc (.cells zero16 61)).alloc (.cells zero16 61)) w.heap.size 61 zero16 := (Blk.new w 61 zero16).alloc _
  have hz2 : Below w.heap.size w ((w.alloc (.cells zero16 61)).alloc (.cells zero16 61)) := ((Below.refl _ _).alloc (Nat.le_refl _) _).alloc (by simp) _
  have hz3 : SI ((w.alloc (.cells zero16 61)).alloc (.cells zero16 61)) A n xs := (HS.out.alloc _).alloc _
  have HZ0 := Lib.hid hz0
  have HZ1 := Lib.hid hz1
  have HZ2 := Lib.hid hz2
  have HZ3 := Lib.hid hz3
  clear hz0 hz1 hz2 hz3 hz ht t
  go_enter Try.func58, Try.ntmps58
  go_wp2_with (first
    | (skip
       refine wpList_copy_arr rfl (.tmp 4) (.tmp 5) rfl (w.heap.size + 1) 16 A n c rfl rfl 61 xs HZ0.out HZ3.out hn ?_
       intro w4 hb4 hg4
       rw [arrD_of (padN_len (by rw [HL.out]; exact hn))] at hb4
       have HB4 := Lib.hid hb4
       have HA4 : Hid (Blk w4 w.heap.size 61 zero16) := Lib.hid (HZ1.out.grown hg4 (by intro e; injection e with e; omega))
       have HW4 : Hid (Below w.heap.size w w4) := Lib.hid (HZ2.out.grown hg4 HZ2.out.size (by rintro q ⟨⟩; omega))
       clear hb4 hg4)
    | (refine wpList_load_blk rfl 61 (.tmp 3) rfl (w.heap.size + 1) rfl 61 (arrD (padN 16 xs)) 16 3 HB4.out Try.undRows Try.infoRows ?_)
    | (refine wpList_store_blk rfl 61 (.tmp 2) (.tmp 7) rfl w.heap.size (arrD (padN 16 xs)) rfl rfl 61 zero16 HA4.out Try.infoRows rfl (arrD_one _) ?_; intro w5 hb5 hg5)
    | fail)
  refine bodyPost_ret (results_blk Try.results58 _ _ _ _ _ 16 3 rfl hb5 Try.undRows Try.infoRows) rfl ?_
  exact ⟨rfl, HW4.out.grown hg5 HW4.out.size (by rintro q ⟨⟩; exact Nat.le_refl _)⟩
end Go.Proofs.Ythinbmjcdcmioaa

/-
  The conjugate shape, on both sides. Conditions: lengths below 2^40.
-/


namespace Go.Proofs.Ythinbmjcdcmioaa
open Go.RowKit

/-- How many of the first k numbers are more than j. -/
def cntN (xs : List Int) (j : Nat) : Nat → Int
  | 0 => 0
  | k + 1 => if (j : Int) < nth xs k then cntN xs j k + 1 else cntN xs j k
theorem cntN_range (xs : List Int) (j : Nat) : ∀ k : Nat, 0 ≤ cntN xs j k ∧ cntN xs j k ≤ (k : Int)
  | 0 => ⟨Int.le_refl _, Int.le_refl _⟩
  | k + 1 => by
    have := cntN_range xs j k
    unfold cntN
    split <;> omega
def conjL (xs : List Int) (m : Nat) : List Int := (List.range m).map fun j => cntN xs j xs.length
theorem conjL_len (xs : List Int) (m : Nat) : (conjL xs m).length = m := by simp [conjL]
theorem conjL_succ (xs : List Int) (m : Nat) : conjL xs (m + 1) = conjL xs m ++ [cntN xs m xs.length] := by simp [conjL, List.range_succ]
/-- What ConjugateShape answers. -/
def conjShape (xs : List Int) : List Int := if isShapeB xs = true then conjL xs (nth xs 0).toNat else []
theorem conj_no {xs : List Int} (h : isShapeB xs = false) : conjShape xs = [] := by unfold conjShape; rw [if_neg (by rw [h]; decide)]
theorem conj_yes {xs : List Int} (h : isShapeB xs = true) : conjShape xs = conjL xs (nth xs 0).toNat := by unfold conjShape; rw [if_pos h]
theorem shape_first {xs : List Int} (h : isShapeP xs) : ∀ k, k < xs.length → nth xs k ≤ nth xs 0 := by
  intro k
  induction k with
  | zero => intro _; exact Int.le_refl _
  | succ k ih => intro hk; have h1 := ih (by omega); have h2 : nth xs (k + 1) ≤ nth xs k := (h.2 (k + 1) hk).2; omega
theorem shape_range {xs : List Int} (h : isShapeP xs) : ∀ k, 0 ≤ nth xs k ∧ nth xs k ≤ 16 := by
  have h0 : nth xs 0 ≤ 16 ∨ xs.length = 0 := by
    by_cases hl : xs.length = 0
    · exact .inr hl
    · exact .inl ((h.2 0 (by omega)).2)
  intro k
  by_cases hk : k < xs.length
  · have h1 := (h.2 k hk).1
    have h2 := shape_first h k hk
    omega
  · rw [nth_out (by omega)]; omega
theorem conj_small (xs : List Int) : (conjShape xs).length ≤ 1099511627775 := by
  unfold conjShape
  split
  · rename_i h
    rw [conjL_len]
    have := shape_range (isShapeB_P h) 0
    omega
  · simp
theorem Fresh.nil_ret' {w w' : World} (h : Below w.heap.size w w') : Fresh w w' (.returned (.slice none 0 0)) [] := ⟨none, 0, 0, rfl, Own.nil _ _ _, h⟩
set_option maxHeartbeats 400000 in
theorem l4At_any (A : Option Addr) (n c : Nat) (xs : List Int) (i : Nat) (w : World) (hs : SI w A n xs) (hn : n ≤ 1099511627776) (hi : i ≤ 1099511627776) :
    Calls Try.prog 56 #[.slice A n c, .int .i64 i] w fun e w' => e = .returned (.int .i64 (nth xs i)) ∧ w = w' := by
  by_cases hlt : i < n
  · obtain ⟨b, o, rfl, hb, hc⟩ := hs.at_ (by omega)
    have hc1 := hc i hlt
    have hlI : (i : Int) < (n : Int) := by omega
    obtain ⟨x, hx⟩ : ∃ x, x = nth xs i := ⟨_, rfl⟩
    rw [← hx] at hc1 ⊢
    clear hc hs hx
    go_enter Try.func56, Try.ntmps56
    go_wp2
    go_ret
    exact ⟨rfl, rfl⟩
  · rw [nth_out (by have := hs.1; omega)]
    have hlI : ¬ (i : Int) < (n : Int) := by omega
    clear hs
    go_enter Try.func56, Try.ntmps56
    go_wp2
    go_ret
    exact ⟨rfl, rfl⟩
set_option maxHeartbeats 1600000 in
theorem specConj_any (A : Option Addr) (n c : Nat) (xs : List Int) (w : World) (hs : SI w A n xs) (hn : n ≤ 1099511627776) :
    Calls Try.prog 19 #[.slice A n c] w fun e w' => Fresh w w' e (conjShape xs) := by
  have HI := Lib.hid (specIsShape_any A n c xs w hs hn)
  cases hu : isShapeB xs with
  | false =>
    rw [hu] at HI
    have HE := Lib.hid (conj_no hu)
    clear hu hs
    go_enter Try.func19, Try.ntmps19
    go_wp2_with (go_at_call 15; refine HI.out.mono ?_; rintro e w1 ⟨rfl, hd1⟩)
    go_ret
    rw [HE.out]
    exact Fresh.nil_ret' (hd1.below _)
  | true =>
    rw [hu] at HI
    have hp := isShapeB_P hu
    have HL := Lib.hid hs.1
    have h16 : n ≤ 16 := by have := hp.1; have := hs.1; omega
    obtain ⟨m, hm⟩ : ∃ m : Nat, nth xs 0 = (m : Int) := ⟨(nth xs 0).toNat, by have := (shape_range hp 0).1; omega⟩
    have hm16 : m ≤ 16 := by have := (shape_range hp 0).2; omega
    have HE : Hid (conjShape xs = conjL xs m) := Lib.hid (by rw [conj_yes hu, hm, Int.toNat_natCast])
    have HA0 : Hid (∀ w' : World, Below w.heap.size w w' → Calls Try.prog 56 #[.slice A n c, .int .i64 0] w' fun e w'' => e = .returned (.int .i64 m) ∧ w' = w'') := Lib.hid (fun w' hb => by
      have := l4At_any A n c xs 0 w' (hs.below hb (Nat.le_refl _)) hn (by omega)
      rw [hm] at this; exact this)
    have HS := Lib.hid hs
    clear hu hs hp hm
    go_enter Try.func19, Try.ntmps19
    go_wp2_with (go_at_call 15; refine HI.out.mono ?_; rintro e w1 ⟨rfl, hd1⟩; have HD1 : Hid (Below w.heap.size w w1) := Lib.hid (hd1.below _); have HZ1 : Hid (w1.heap.size = w.heap.size) := Lib.hid (by rw [hd1.heap]); clear hd1)
    go_loopw [3, 4] (fun ov jv wr => ∃ (j : Nat) (Ao : Option Addr) (co : Nat), j ≤ m ∧ jv = .int .i64 j ∧ ov = .slice Ao j co ∧ Own wr w.heap.size wr.heap.size Ao j co (conjL xs j) ∧ Below w.heap.size w wr)
      (fun _ jv _ => m - (intOf jv).toNat)
    case atStart => exact ⟨0, _, _, Nat.zero_le _, rfl, rfl, (Own.empty w1).wide (by rw [HZ1.out]; exact Nat.le_refl _) (by simp), HD1.out.alloc (by rw [HZ1.out]; exact Nat.le_refl _) _⟩
    case round =>
      obtain ⟨j, Ao, co, hj, rfl, rfl, hown, hbw⟩ := hrel
      have HO := Lib.hid hown
      have HB := Lib.hid hbw
      clear hown hbw
      obtain ⟨wo, rfl⟩ : ∃ wo, wo = wr := ⟨wr, rfl⟩
      by_cases hlt : j < m
      · have hlI : (j : Int) < (m : Int) := by omega
        go_wp2_with (go_at_call 56; refine (HA0.out _ HB.out).mono ?_; rintro e w2 ⟨rfl, rfl⟩)
        go_loopw [5, 6] (fun nv iv wx => ∃ i : Nat, i ≤ n ∧ iv = .int .i64 i ∧ nv = .int .i64 (cntN xs j i) ∧ wx = wo)
          (fun _ iv _ => n - (intOf iv).toNat)
        case atStart => exact ⟨0, Nat.zero_le _, rfl, rfl, rfl⟩
        case round =>
          obtain ⟨i, hi, rfl, rfl, hwx⟩ := hrel
          have HWX := Lib.hid hwx
          have hso := HS.out.below HB.out (Nat.le_refl _)
          rw [← hwx] at hso
          clear hwx
          by_cases hlt2 : i < n
          · have hiI : (i : Int) < (n : Int) := by omega
            obtain ⟨b, o, rfl, hb, hc⟩ := hso.at_ (by omega)
            have hc1 := hc i hlt2
            have hr := cntN_range xs j i
            have e : cntN xs j (i + 1) = if (j : Int) < nth xs i then cntN xs j i + 1 else cntN xs j i := rfl
            obtain ⟨x, hx⟩ : ∃ x, x = nth xs i := ⟨_, rfl⟩
            obtain ⟨y, hy⟩ : ∃ y, y = cntN xs j i := ⟨_, rfl⟩
            rw [← hx, ← hy] at e
            rw [← hx] at hc1
            rw [← hy] at hr ⊢
            obtain ⟨hr0, hr1⟩ := hr
            have hwp : IntKind.i64.wrap (y + 1) = y + 1 := IntWalk.i64_in _ (by omega)
            clear hc hx hy hso
            by_cases hjx : (j : Int) < x
            · rw [if_pos hjx] at e
              have HE2 := Lib.hid e
              clear e
              go_wp2
              go_roundw
              case rel => exact ⟨i + 1, by omega, by go_num, by rw [HE2.out], HWX.out⟩
              case measure => simp [intOf]; omega
            · rw [if_neg hjx] at e
              have HE2 := Lib.hid e
              clear e
              go_wp2
              go_roundw
              case rel => exact ⟨i + 1, by omega, by go_num, by rw [HE2.out], HWX.out⟩
              case measure => simp [intOf]; omega
          · have hin : i = n := by omega
            subst hin
            have HC : Hid (conjL xs (j + 1) = conjL xs j ++ [cntN xs j i]) := Lib.hid (by rw [conjL_succ, HL.out])
            obtain ⟨y, hy⟩ : ∃ y, y = cntN xs j i := ⟨_, rfl⟩
            rw [← hy] at HC ⊢
            have HO' : Hid (Own wr w.heap.size wr.heap.size Ao j co (conjL xs j)) := Lib.hid (by rw [HWX.out]; exact HO.out)
            have HB' : Hid (Below w.heap.size w wr) := Lib.hid (by rw [HWX.out]; exact HB.out)
            clear hso hy
            go_wp2_with (at_builtin; refine wpList_append1 rfl (.tmp 31) (.tmp 33) rfl w.heap.size Ao j co (conjL xs j) y rfl rfl HO'.out HB'.out.size (by omega) ?_; intro A' c' w5 ho5 _ hb5)
            go_roundw
            case rel => exact ⟨j + 1, _, _, by omega, by go_num, rfl, by rw [HC.out]; exact ho5, HB'.out.trans hb5⟩
            case measure => simp [intOf]; omega
      · have hjm : j = m := by omega
        subst hjm
        go_wp2_with (go_at_call 56; refine (HA0.out _ HB.out).mono ?_; rintro e w2 ⟨rfl, rfl⟩)
        go_ret
        rw [HE.out]
        exact ⟨Ao, _, co, rfl, HO.out, HB.out⟩
end Go.Proofs.Ythinbmjcdcmioaa

/-
  The conjugate shape, the program's side. Conditions: lengths below 2^40.
-/

namespace Go.Proofs.Ythinbmjcdcmioaa
open Go.RowKit

/-- The columns when i rows are counted, and j cells of the next one. -/
def colM (xs : List Int) (m i j : Nat) : List Int := (List.range m).map fun t => if t < j then cntN xs t (i + 1) else cntN xs t i
theorem colM_len (xs : List Int) (m i j : Nat) : (colM xs m i j).length = m := by simp [colM]
theorem colM_nth {xs : List Int} {m i j t : Nat} (h : t < m) : nth (colM xs m i j) t = if t < j then cntN xs t (i + 1) else cntN xs t i := by
  rw [nth_get (by rw [colM_len]; exact h)]; simp [colM]
theorem list_ext_nth {a b : List Int} (hl : a.length = b.length) (h : ∀ k, k < a.length → nth a k = nth b k) : a = b := by
  apply List.ext_getElem hl
  intro j h1 h2
  rw [← nth_get h1, ← nth_get h2]
  exact h j h1
theorem nth_set {l : List Int} {k : Nat} (x : Int) (hk : k < l.length) (j : Nat) : nth (l.set k x) j = if j = k then x else nth l j := by
  unfold nth
  rw [List.getD_eq_getElem?_getD, List.getD_eq_getElem?_getD, List.getElem?_set]
  by_cases h : k = j
  · subst h; simp [hk]
  · rw [if_neg h, if_neg (fun h' => h h'.symm)]
theorem colM_step {xs : List Int} {m i j : Nat} (hj : j < m) (hx : (j : Int) < nth xs i) : (colM xs m i j).set j (cntN xs j i + 1) = colM xs m i (j + 1) := by
  refine list_ext_nth (by simp [colM_len]) fun k hk => ?_
  have hk' : k < m := by simpa [colM_len] using hk
  rw [nth_set _ (by rw [colM_len]; exact hj), colM_nth hk', colM_nth hk']
  by_cases h : k = j
  · subst h
    rw [if_pos rfl, if_pos (by omega)]
    show _ = if (k : Int) < nth xs i then cntN xs k i + 1 else cntN xs k i
    rw [if_pos hx]
  · rw [if_neg h]
    by_cases h2 : k < j
    · rw [if_pos h2, if_pos (by omega)]
    · rw [if_neg h2, if_neg (by omega)]
theorem colM_row {xs : List Int} {m i j : Nat} (hx : nth xs i = (j : Int)) : colM xs m i j = colM xs m (i + 1) 0 := by
  refine list_ext_nth (by simp [colM_len]) fun k hk => ?_
  have hk' : k < m := by simpa [colM_len] using hk
  rw [colM_nth hk', colM_nth hk', if_neg (by omega : ¬ k < 0)]
  by_cases h : k < j
  · rw [if_pos h]
  · rw [if_neg h]
    show _ = if (k : Int) < nth xs i then cntN xs k i + 1 else cntN xs k i
    rw [if_neg (by omega)]
theorem colM_start (xs : List Int) (m : Nat) : colM xs m 0 0 = List.replicate m 0 := by
  refine list_ext_nth (by simp [colM_len]) fun k hk => ?_
  have hk' : k < m := by simpa [colM_len] using hk
  rw [colM_nth hk', if_neg (by omega), nth_get (by simpa using hk')]
  simp [cntN]
theorem colM_all (xs : List Int) (m : Nat) : colM xs m xs.length 0 = conjL xs m := by
  refine list_ext_nth (by simp [colM_len, conjL_len]) fun k hk => ?_
  have hk' : k < m := by simpa [colM_len] using hk
  rw [colM_nth hk', if_neg (by omega), nth_get (by simpa [conjL_len] using hk')]
  simp [conjL]
set_option maxHeartbeats 1600000 in
theorem implConj_any (A : Option Addr) (n c : Nat) (xs : List Int) (w : World) (hs : SI w A n xs) (hn : n ≤ 1099511627776) :
    Calls Try.prog 20 #[.slice A n c] w fun e w' => Fresh w w' e (conjShape xs) := by
  have HI := Lib.hid (implIsShape_any A n c xs w hs hn)
  cases hu : isShapeB xs with
  | false =>
    rw [hu] at HI
    have HE := Lib.hid (conj_no hu)
    clear hu hs
    go_enter Try.func20, Try.ntmps20
    go_wp2_with (go_at_call 17; refine HI.out.mono ?_; rintro e w1 ⟨rfl, hd1⟩)
    go_ret
    rw [HE.out]
    exact Fresh.nil_ret' (hd1.below _)
  | true =>
    rw [hu] at HI
    have hp := isShapeB_P hu
    have hl := hs.1
    by_cases h0 : n = 0
    · have HE : Hid (conjShape xs = []) := Lib.hid (by rw [conj_yes hu, nth_out (by omega)]; rfl)
      subst h0
      clear hu hs hp
      go_enter Try.func20, Try.ntmps20
      go_wp2_with (go_at_call 17; refine HI.out.mono ?_; rintro e w1 ⟨rfl, hd1⟩)
      go_ret
      rw [HE.out]
      exact Fresh.nil_ret' (hd1.below _)
    · have h0I : ((n : Int) == 0) = false := by simpa using h0
      have HL := Lib.hid hl
      have h16 : n ≤ 16 := by have := hp.1; omega
      obtain ⟨m, hm⟩ : ∃ m : Nat, nth xs 0 = (m : Int) := ⟨(nth xs 0).toNat, by have := (shape_range hp 0).1; omega⟩
      have hm16 : m ≤ 16 := by have := (shape_range hp 0).2; omega
      have HE : Hid (conjShape xs = conjL xs m) := Lib.hid (by rw [conj_yes hu, hm, Int.toNat_natCast])
      have HF : Hid (∀ k, k < n → 0 ≤ nth xs k ∧ nth xs k ≤ m) := Lib.hid (fun k hk => ⟨(shape_range hp k).1, by rw [← hm]; exact shape_first hp k (by omega)⟩)
      obtain ⟨b, o, rfl, hb, hc⟩ := hs.at_ (by omega)
      have hc0 := hc 0 (by omega)
      rw [hm, Nat.add_zero] at hc0
      have HS := Lib.hid hs
      have hnI : (0 : Int) < (n : Int) := by omega
      clear hu hs hp hm hc h0 hl
      go_enter Try.func20, Try.ntmps20
      go_wp2_with (first
        | (go_at_call 17; refine HI.out.mono ?_; rintro e w1 ⟨rfl, hd1⟩
           have HD1 : Hid (Below w.heap.size w w1) := Lib.hid (hd1.below _)
           have HZ1 : Hid (w1.heap.size = w.heap.size) := Lib.hid (by rw [hd1.heap])
           have hc01 : w1.cell? ⟨b, o, none⟩ = some (.int .i64 m) := ((hd1.below w.heap.size).cell (p := ⟨b, o, none⟩) hb).trans hc0
           clear hd1)
        | (at_make; refine wpList_make_zero rfl (.tmp 17) (.tmp 17) rfl m rfl rfl (by omega) ?_; intro w2 ho2 hb2; have HO2 := Lib.hid ho2; have HB2 := Lib.hid hb2; clear ho2 hb2))
      obtain ⟨B, hB⟩ : ∃ B, B = w1.heap.size := ⟨_, rfl⟩
      have HBE : Hid (B = w.heap.size) := Lib.hid (by rw [hB]; exact HZ1.out)
      rw [← hB] at HO2 HB2 ⊢
      have HBW : Hid (Below w.heap.size w w2) := Lib.hid (HD1.out.trans (by have := HB2.out; rwa [HBE.out] at this))
      have HO2' : Hid (Own w2 B (B + 1) (some ⟨B, 0, none⟩) m m (colM xs m 0 0)) := Lib.hid (by rw [colM_start]; exact ⟨HO2.out.1, fun k hk => by simp [Value.ownBlock] at hk; omega⟩)
      have HZ2 : Hid (B + 1 ≤ w2.heap.size) := Lib.hid (by have := HO2.out.lt B rfl; omega)
      clear HO2 HB2 hB hc0 hc01
      go_loopw [21] (fun iv wr => ∃ i : Nat, i ≤ n ∧ iv = .int .i64 i ∧ Own wr B (B + 1) (some ⟨B, 0, none⟩) m m (colM xs m i 0) ∧ Below w.heap.size w wr ∧ B + 1 ≤ wr.heap.size)
        (fun iv _ => n - (intOf iv).toNat)
      case atStart => exact ⟨0, Nat.zero_le _, rfl, HO2'.out, HBW.out, HZ2.out⟩
      case round =>
        obtain ⟨i, hi, rfl, hown, hbw, hz⟩ := hrel
        clear HO2' HBW HZ2
        have HO := Lib.hid hown
        have HB := Lib.hid hbw
        have HZ := Lib.hid hz
        clear hown hbw hz
        by_cases hlt : i < n
        · have hiI : (i : Int) < (n : Int) := by omega
          have hs' := HS.out.below HB.out (Nat.le_refl _)
          obtain ⟨b', o', e1, hb', hc'⟩ := hs'.at_ (by omega)
          obtain ⟨rfl, rfl⟩ : b = b' ∧ o = o' := by simpa using e1
          have hc1 := hc' i hlt
          obtain ⟨t, ht⟩ : ∃ t : Nat, nth xs i = (t : Int) := ⟨(nth xs i).toNat, by have := (HF.out i hlt).1; omega⟩
          have HT : Hid (t ≤ m) := Lib.hid (by have := (HF.out i hlt).2; omega)
          have HTX := Lib.hid ht
          rw [ht] at hc1
          clear hs' e1 hb' hc' ht
          go_wp2_with fail
          go_loopw [26] (fun jv wx => ∃ j : Nat, j ≤ t ∧ jv = .int .i64 j ∧ Own wx B (B + 1) (some ⟨B, 0, none⟩) m m (colM xs m i j) ∧ Below w.heap.size w wx ∧ B + 1 ≤ wx.heap.size)
            (fun jv _ => t - (intOf jv).toNat)
          case atStart => exact ⟨0, Nat.zero_le _, rfl, HO.out, HB.out, HZ.out⟩
          case round =>
            obtain ⟨j, hj, rfl, hown, hbw, hz⟩ := hrel
            clear HO HB HZ hc1
            have HO := Lib.hid hown
            have HB := Lib.hid hbw
            have HZ := Lib.hid hz
            by_cases hlt2 : j < t
            · have hjI : (j : Int) < (t : Int) := by omega
              have hjm : j < m := by have := HT.out; omega
              have hjmI : (j : Int) < (m : Int) := by omega
              have hcc := hown.cellAt (k := j) hjm
              have hff := hown.frozenAt j
              rw [colM_nth hjm, if_neg (by omega)] at hcc
              have hr := cntN_range xs j i
              have hset := (hown.set_ (k := j) (cntN xs j i + 1)).1
              rw [colM_step hjm (by rw [HTX.out]; omega)] at hset
              obtain ⟨y, hy⟩ : ∃ y, y = cntN xs j i := ⟨_, rfl⟩
              rw [← hy] at hcc hr hset
              obtain ⟨hr0, hr1⟩ := hr
              have hwp : IntKind.i64.wrap (y + 1) = y + 1 := IntWalk.i64_in _ (by omega)
              have HSET := Lib.hid hset
              clear hset hy hown hbw hz
              go_wp2
              go_roundw
              case rel => exact ⟨j + 1, by omega, by go_num, HSET.out, HB.out.setCell (by rw [← HBE.out]; exact Nat.le_refl _) _, by simpa using HZ.out⟩
              case measure => simp [intOf]; omega
            · have hjt : j = t := by omega
              subst hjt
              have hown' := hown
              rw [colM_row HTX.out] at hown'
              have HO3 := Lib.hid hown'
              clear hown hown' hbw hz
              go_wp2
              go_roundw
              case rel => exact ⟨i + 1, by omega, by go_num, HO3.out, HB.out, HZ.out⟩
              case measure => simp [intOf]; omega
        · have hin : i = n := by omega
          subst hin
          have HO3 := HO.out
          rw [show i = xs.length from HL.out.symm, colM_all] at HO3
          have HO4 := Lib.hid HO3
          clear HO3
          go_wp2
          go_ret
          rw [HE.out]
          exact ⟨_, _, _, rfl, HO4.out.wide (by rw [HBE.out]; exact Nat.le_refl _) HZ.out, HB.out⟩
end Go.Proofs.Ythinbmjcdcmioaa

/-
  What a tableau is: the tests of both sides. Conditions: lengths below 2^40.
-/



namespace Go.Proofs.Ythinbmjcdcmioaa
open Go.RowKit

/-- The lengths of the rows. -/
def lensL (ls : List (List Int)) : List Int := ls.map fun l => (l.length : Int)
theorem lensL_len (ls : List (List Int)) : (lensL ls).length = ls.length := by simp [lensL]
theorem lensL_nth {ls : List (List Int)} {k : Nat} (h : k < ls.length) : nth (lensL ls) k = ((li ls k).length : Int) := by
  rw [nth_get (by rw [lensL_len]; exact h), li_get h]; simp [lensL]
/-- The number in row i at the place j. -/
abbrev cel (ls : List (List Int)) (i j : Nat) : Int := nth (li ls i) j
def cellOk (ls : List (List Int)) (i j : Nat) : Prop := 0 ≤ cel ls i j ∧ cel ls i j ≤ 20 ∧ (0 < j → cel ls i (j - 1) ≤ cel ls i j) ∧ (0 < i → cel ls (i - 1) j < cel ls i j)
instance (ls : List (List Int)) (i j : Nat) : Decidable (cellOk ls i j) := by unfold cellOk; infer_instance
def tabP (ls : List (List Int)) : Prop := isShapeP (lensL ls) ∧ ∀ i, i < ls.length → ∀ j, j < (li ls i).length → cellOk ls i j
def tabB (ls : List (List Int)) : Bool := isShapeB (lensL ls) && (List.range ls.length).all fun i => (List.range (li ls i).length).all fun j => decide (cellOk ls i j)
theorem tabB_iff (ls : List (List Int)) : tabB ls = true ↔ tabP ls := by simp [tabB, tabP, isShapeB_iff]
theorem tabB_true {ls : List (List Int)} (h : tabP ls) : tabB ls = true := (tabB_iff _).2 h
theorem tabB_false {ls : List (List Int)} (h : ¬ tabP ls) : tabB ls = false := by
  cases hb : tabB ls with
  | false => rfl
  | true => exact absurd ((tabB_iff _).1 hb) h
theorem shapeAt_lens {ls : List (List Int)} {k : Nat} (hk : k < ls.length) : shapeAt (lensL ls) k ↔ (1 ≤ (li ls k).length ∧ (li ls k).length ≤ 16 ∧ (0 < k → (li ls k).length ≤ (li ls (k - 1)).length)) ∨ (shapeAt (lensL ls) k ∧ 16 < (li ls k).length) := by
  constructor
  · intro h
    by_cases h16 : (li ls k).length ≤ 16
    · left
      unfold shapeAt at h
      rw [lensL_nth hk] at h
      refine ⟨by omega, h16, fun h0 => ?_⟩
      obtain ⟨q, rfl⟩ : ∃ q, k = q + 1 := ⟨k - 1, by omega⟩
      have h2 : (((li ls (q + 1)).length : Nat) : Int) ≤ nth (lensL ls) q := h.2
      rw [lensL_nth (by omega)] at h2
      show _ ≤ (li ls q).length
      omega
    · right; exact ⟨h, by omega⟩
  · rintro (⟨h1, h2, h3⟩ | h)
    · unfold shapeAt
      rw [lensL_nth hk]
      refine ⟨by omega, ?_⟩
      cases k with
      | zero => show _ ≤ (16 : Int); omega
      | succ q =>
        have := h3 (by omega)
        show _ ≤ nth (lensL ls) q
        rw [lensL_nth (by omega)]
        simp only [Nat.add_sub_cancel] at this
        omega
    · exact h.1
end Go.Proofs.Ythinbmjcdcmioaa

/-
  The document's test for tableaux. Conditions: lengths below 2^40.
-/

namespace Go.Proofs.Ythinbmjcdcmioaa
open Go.RowKit

set_option maxRecDepth 100000 in
set_option maxHeartbeats 40000000 in
theorem specTab_any (A : Option Addr) (n c : Nat) (ls : List (List Int)) (w : World) (hs : LS w A n ls) (hn : n ≤ 1099511627776) (hne : ∀ k, k < n → (li ls k).length ≤ 1099511627776) :
    Calls Try.prog 26 #[.slice A n c] w fun e w' => e = .returned (.bool (tabB ls)) ∧ Drawn w w' := by
  have HL := Lib.hid hs.1
  have HNE := Lib.hid hne
  clear hne
  by_cases h16 : 16 < n
  · have h16I : (16 : Int) < (n : Int) := by omega
    have HF := Lib.hid (tabB_false (ls := ls) (fun h => by have := h.1.1; rw [lensL_len] at this; have := HL.out; omega))
    clear hs
    go_enter Try.func26, Try.ntmps26
    go_wp2
    go_ret
    exact ⟨ret_bool HF.out.symm, Drawn.refl _⟩
  · have h16I : ¬ (16 : Int) < (n : Int) := by omega
    go_enter Try.func26, Try.ntmps26
    go_wp2
    go_loopw [3] (fun iv wr => ∃ i : Nat, i ≤ n ∧ iv = .int .i64 i ∧ Drawn w wr ∧ (∀ k, k < i → shapeAt (lensL ls) k) ∧ ∀ k, k < i → ∀ j, j < (li ls k).length → cellOk ls k j)
      (fun iv _ => n - (intOf iv).toNat)
    case atStart => exact ⟨0, Nat.zero_le _, rfl, Drawn.refl _, fun k hk => absurd hk (by omega), fun k hk => absurd hk (by omega)⟩
    case round =>
      obtain ⟨i, hi, rfl, hD, hsh, hce⟩ := hrel
      have HD := Lib.hid hD
      have HSH := Lib.hid hsh
      have HCE := Lib.hid hce
      have hts := hs.drawn hD
      clear hD hsh hce
      by_cases hlt : i < n
      · have hiI : (i : Int) < (n : Int) := by omega
        have hiL : i < ls.length := by rw [HL.out]; exact hlt
        cases i with
        | zero =>
          obtain ⟨b, o, A1, m1, c1, rfl, hb, hr1, hsi1, _, _⟩ := hts.at_ hlt
          rw [Nat.add_zero] at hr1
          have hm1 : (li ls 0).length = m1 := hsi1.1
          by_cases hr : (1 : Int) ≤ (m1 : Int) ∧ (m1 : Int) ≤ 16
          · obtain ⟨hra, hrb⟩ := hr
            have HSHI : Hid (shapeAt (lensL ls) 0) := Lib.hid ((shapeAt_lens hiL).2 (.inl ⟨by omega, by omega, fun h => by omega⟩))
            have HM1 := Lib.hid hm1
            have HSI1 := Lib.hid hsi1
            have HR1 := Lib.hid hr1
            obtain ⟨wo, rfl⟩ : ∃ wo, wo = wr := ⟨wr, rfl⟩
            go_wp2_with fail
            go_quiet ((go_at_call 55; exact Calls.quiet_of (l1In_yes hra hrb _)))
            clear hr1 hsi1 hts hm1
            go_wp2_with fail
            go_loopw [4] (fun jv wx => ∃ j : Nat, j ≤ m1 ∧ jv = .int .i64 j ∧ Drawn wo wx ∧ ∀ k, k < j → cellOk ls 0 k)
              (fun jv _ => m1 - (intOf jv).toNat)
            case atStart => exact ⟨0, Nat.zero_le _, rfl, ⟨_, rfl⟩, fun k hk => absurd hk (by omega)⟩
            case round =>
              obtain ⟨j, hj, rfl, hD, hce⟩ := hrel
              have HDJ := Lib.hid hD
              have HCJ := Lib.hid hce
              have hsi1 := hD.si HSI1.out
              have hr1 : wr.cell? ⟨b, o, none⟩ = some (.slice A1 m1 c1) := by obtain ⟨z, rfl⟩ := hD; exact HR1.out
              clear hD hce
              by_cases hlt2 : j < m1
              · have hjI : (j : Int) < (m1 : Int) := by omega
                obtain ⟨b1, o1, rfl, _, hcc1⟩ := hsi1.at_ (by omega)
                have hx := hcc1 j hlt2
                obtain ⟨x, hx0⟩ : ∃ x, x = cel ls 0 j := ⟨_, rfl⟩
                rw [show nth (li ls 0) j = x from hx0.symm] at hx
                have HX := Lib.hid hx0
                clear hx0
                have hfail : ¬ cellOk ls 0 j → tabB ls = false := fun h => tabB_false (fun h2 => h (h2.2 0 hiL j (by rw [HM1.out]; exact hlt2)))
                have HFAIL := Lib.hid hfail
                clear hfail
                by_cases hrg : 0 ≤ x ∧ x ≤ 20
                · obtain ⟨hx1, hx2⟩ := hrg
                  cases j with
                  | zero =>
                    rw [Nat.add_zero] at hx
                    clear hsi1 hcc1
                    have HG : Hid (cellOk ls 0 0) := Lib.hid ⟨by have := HX.out; omega, by have := HX.out; omega, fun h => absurd h (by omega), fun h => absurd h (by omega)⟩
                    go_wp2_with fail
                    go_quiet ((go_at_call 55; exact Calls.quiet_of (l1In_yes hx1 hx2 _)))
                    go_wp2
                    go_roundw
                    case rel => exact ⟨0 + 1, by omega, by go_num, HDJ.out.drewN _, fun k hk => by
                      rcases Nat.lt_or_ge k 0 with h | h
                      · exact HCJ.out k h
                      · rw [show k = 0 by omega]; exact HG.out⟩
                    case measure => simp [intOf]; omega
                  | succ r =>
                    have hz := hcc1 r (by omega)
                    obtain ⟨z, hz0⟩ : ∃ z, z = cel ls 0 r := ⟨_, rfl⟩
                    rw [show nth (li ls 0) r = z from hz0.symm] at hz
                    have HZ := Lib.hid hz0
                    clear hz0
                    have hrI : (r : Int) < (m1 : Int) := by omega
                    have hrpos : (0 : Int) < ((r + 1 : Nat) : Int) := by omega
                    have hjI2 : (r : Int) + 1 < (m1 : Int) := by omega
                    have hwr2 : IntKind.i64.wrap (((r + 1 : Nat) : Int) - 1) = (r : Int) := by rw [show ((r + 1 : Nat) : Int) - 1 = (r : Int) by omega]; exact IntWalk.i64_in _ (by omega)
                    clear hsi1 hcc1
                    by_cases hzx : x < z
                    · skip
                      have HF := Lib.hid (HFAIL.out (fun h => by have := h.2.2.1 (by omega); rw [show r + 1 - 1 = r by omega] at this; have := HX.out; have := HZ.out; omega))
                      go_wp2_with fail
                      go_quiet ((go_at_call 55; exact Calls.quiet_of (l1In_yes hx1 hx2 _)))
                      go_wp2
                      go_ret
                      exact ⟨ret_bool HF.out.symm, (HD.out.trans HDJ.out).drewN _⟩
                    · skip
                      have HG : Hid (cellOk ls 0 (r + 1)) := Lib.hid ⟨by have := HX.out; omega, by have := HX.out; omega, fun _ => by rw [show r + 1 - 1 = r by omega]; have := HX.out; have := HZ.out; omega, fun h => absurd h (by omega)⟩
                      go_wp2_with fail
                      have hzb7 : ¬ x < z := by omega
                      go_quiet ((go_at_call 55; exact Calls.quiet_of (l1In_yes hx1 hx2 _)))
                      go_wp2
                      go_roundw
                      case rel => exact ⟨r + 1 + 1, by omega, by go_num, HDJ.out.drewN _, fun k hk => by
                        rcases Nat.lt_or_ge k (r + 1) with h | h
                        · exact HCJ.out k h
                        · rw [show k = r + 1 by omega]; exact HG.out⟩
                      case measure => simp [intOf]; omega
                · have hbad : x < 0 ∨ 20 < x := by omega
                  clear hsi1 hcc1
                  have HF := Lib.hid (HFAIL.out (fun h => by have h1 := h.1; have h2 := h.2.1; have := HX.out; omega))
                  go_wp2_with fail
                  go_quiet ((go_at_call 55; exact Calls.quiet_of (l1In_no hbad _)))
                  go_wp2
                  go_ret
                  exact ⟨ret_bool HF.out.symm, (HD.out.trans HDJ.out).drewN _⟩
              · have hjm : j = m1 := by omega
                subst hjm
                clear hsi1
                go_wp2
                go_roundw
                case rel => exact ⟨0 + 1, by omega, by go_num, HD.out.trans HDJ.out, fun k hk => by
                  rcases Nat.lt_or_ge k 0 with h | h
                  · exact HSH.out k h
                  · rw [show k = 0 by omega]; exact HSHI.out, fun k hk => by
                  rcases Nat.lt_or_ge k 0 with h | h
                  · exact HCE.out k h
                  · rw [show k = 0 by omega, HM1.out]; exact HCJ.out⟩
                case measure => simp [intOf]; omega
          · have hbad : (m1 : Int) < 1 ∨ 16 < (m1 : Int) := by omega
            have HF := Lib.hid (tabB_false (ls := ls) (fun h => by have h1 := h.1.2 0 (by rw [lensL_len]; exact hiL); have h2 := prevS_le (xs := lensL ls) (k := 0) (fun j hj => h.1.2 j (by rw [lensL_len]; omega)); unfold shapeAt at h1; rw [lensL_nth hiL, hm1] at h1; omega))
            clear hsi1 hm1 hts
            go_wp2_with fail
            go_quiet ((go_at_call 55; exact Calls.quiet_of (l1In_no hbad _)))
            go_wp2
            go_ret
            exact ⟨ret_bool HF.out.symm, HD.out.drewN _⟩
        | succ q =>
          obtain ⟨b, o, A1, m1, c1, rfl, hb, hr1, hsi1, _, _⟩ := hts.at_ hlt
          obtain ⟨b0, o0, A0, m0, c0, e0, _, hr0, hsi0, _, _⟩ := hts.at_ (k := q) (by omega)
          obtain ⟨rfl, rfl⟩ : b = b0 ∧ o = o0 := by simpa using e0
          have hm1 : (li ls (q + 1)).length = m1 := hsi1.1
          have hm0 : (li ls q).length = m0 := hsi0.1
          have hqI : (q : Int) < (n : Int) := by omega
          have hq0 : (0 : Int) < ((q + 1 : Nat) : Int) := by omega
          have hwq : IntKind.i64.wrap (((q + 1 : Nat) : Int) - 1) = (q : Int) := by rw [show ((q + 1 : Nat) : Int) - 1 = (q : Int) by omega]; exact IntWalk.i64_in _ (by omega)
          have hm0b : m0 ≤ 16 := by have h1 := HSH.out q (by omega); have h2 := (prevS_le (k := q) (fun j hj => HSH.out j (by omega))); unfold shapeAt at h1; rw [lensL_nth (by omega), hm0] at h1; omega
          by_cases hr : (1 : Int) ≤ (m1 : Int) ∧ (m1 : Int) ≤ 16
          · obtain ⟨hra, hrb⟩ := hr
            by_cases hmm : (m0 : Int) < (m1 : Int)
            · have HF := Lib.hid (tabB_false (ls := ls) (fun h => by have h1 := (shapeAt_lens hiL).1 (h.1.2 (q + 1) (by rw [lensL_len]; exact hiL)); rw [hm1, show q + 1 - 1 = q by omega, hm0] at h1; omega))
              clear hsi1 hsi0 hm1 hm0 hts
              go_wp2_with fail
              go_quiet ((go_at_call 55; exact Calls.quiet_of (l1In_yes hra hrb _)))
              go_wp2
              go_ret
              exact ⟨ret_bool HF.out.symm, HD.out.drewN _⟩
            · skip
              have HSHI : Hid (shapeAt (lensL ls) (q + 1)) := Lib.hid ((shapeAt_lens hiL).2 (.inl ⟨by omega, by omega, fun h => by rw [show q + 1 - 1 = q by omega]; omega⟩))
              have HM1 := Lib.hid hm1
              have HM0 := Lib.hid hm0
              have HSI1 := Lib.hid hsi1
              have HSI0 := Lib.hid hsi0
              have HR1 := Lib.hid hr1
              have HR0 := Lib.hid hr0
              obtain ⟨wo, rfl⟩ : ∃ wo, wo = wr := ⟨wr, rfl⟩
              go_wp2_with fail
              go_quiet ((go_at_call 55; exact Calls.quiet_of (l1In_yes hra hrb _)))
              clear hr1 hsi1 hts hm1 hr0 hsi0 hm0
              go_wp2_with fail
              go_loopw [4] (fun jv wx => ∃ j : Nat, j ≤ m1 ∧ jv = .int .i64 j ∧ Drawn wo wx ∧ ∀ k, k < j → cellOk ls (q + 1) k)
                (fun jv _ => m1 - (intOf jv).toNat)
              case atStart => exact ⟨0, Nat.zero_le _, rfl, ⟨_, rfl⟩, fun k hk => absurd hk (by omega)⟩
              case round =>
                obtain ⟨j, hj, rfl, hD, hce⟩ := hrel
                have HDJ := Lib.hid hD
                have HCJ := Lib.hid hce
                have hsi1 := hD.si HSI1.out
                have hsi0 := hD.si HSI0.out
                have hr1 : wr.cell? ⟨b, o + (q + 1), none⟩ = some (.slice A1 m1 c1) := by obtain ⟨z, rfl⟩ := hD; exact HR1.out
                have hr0 : wr.cell? ⟨b, o + q, none⟩ = some (.slice A0 m0 c0) := by obtain ⟨z, rfl⟩ := hD; exact HR0.out
                clear hD hce
                by_cases hlt2 : j < m1
                · have hjI : (j : Int) < (m1 : Int) := by omega
                  have hjm0 : j < m0 := by have h := (shapeAt_lens hiL).1 HSHI.out; rw [HM1.out, show q + 1 - 1 = q by omega, HM0.out] at h; omega
                  have hjI0 : (j : Int) < (m0 : Int) := by omega
                  obtain ⟨b1, o1, rfl, _, hcc1⟩ := hsi1.at_ (by omega)
                  have hx := hcc1 j hlt2
                  obtain ⟨x, hx0⟩ : ∃ x, x = cel ls (q + 1) j := ⟨_, rfl⟩
                  rw [show nth (li ls (q + 1)) j = x from hx0.symm] at hx
                  have HX := Lib.hid hx0
                  clear hx0
                  obtain ⟨b2, o2, rfl, _, hcc2⟩ := hsi0.at_ (by omega)
                  have hy := hcc2 j hjm0
                  obtain ⟨y, hy0⟩ : ∃ y, y = cel ls q j := ⟨_, rfl⟩
                  rw [show nth (li ls q) j = y from hy0.symm] at hy
                  have HY := Lib.hid hy0
                  clear hy0
                  have hfail : ¬ cellOk ls (q + 1) j → tabB ls = false := fun h => tabB_false (fun h2 => h (h2.2 (q + 1) hiL j (by rw [HM1.out]; exact hlt2)))
                  have HFAIL := Lib.hid hfail
                  clear hfail
                  by_cases hrg : 0 ≤ x ∧ x ≤ 20
                  · obtain ⟨hx1, hx2⟩ := hrg
                    cases j with
                    | zero =>
                      rw [Nat.add_zero] at hx hy
                      clear hsi1 hcc1 hsi0 hcc2
                      by_cases hyx : x ≤ y
                      · have hyx' : ¬ y < x := by omega
                        have HF := Lib.hid (HFAIL.out (fun h => by have := h.2.2.2 (by omega); rw [show q + 1 - 1 = q by omega] at this; have := HX.out; have := HY.out; omega))
                        go_wp2_with fail
                        go_quiet ((go_at_call 55; exact Calls.quiet_of (l1In_yes hx1 hx2 _)))
                        go_wp2
                        go_ret
                        exact ⟨ret_bool HF.out.symm, (HD.out.trans HDJ.out).drewN _⟩
                      · have hyx' : y < x := by omega
                        have HG : Hid (cellOk ls (q + 1) 0) := Lib.hid ⟨by have := HX.out; omega, by have := HX.out; omega, fun h => absurd h (by omega), fun _ => by rw [show q + 1 - 1 = q by omega]; have := HX.out; have := HY.out; omega⟩
                        go_wp2_with fail
                        have hzb7 : ¬ x ≤ y := by omega
                        go_quiet ((go_at_call 55; exact Calls.quiet_of (l1In_yes hx1 hx2 _)))
                        go_wp2
                        go_roundw
                        case rel => exact ⟨0 + 1, by omega, by go_num, HDJ.out.drewN _, fun k hk => by
                          rcases Nat.lt_or_ge k 0 with h | h
                          · exact HCJ.out k h
                          · rw [show k = 0 by omega]; exact HG.out⟩
                        case measure => simp [intOf]; omega
                    | succ r =>
                      have hz := hcc1 r (by omega)
                      obtain ⟨z, hz0⟩ : ∃ z, z = cel ls (q + 1) r := ⟨_, rfl⟩
                      rw [show nth (li ls (q + 1)) r = z from hz0.symm] at hz
                      have HZ := Lib.hid hz0
                      clear hz0
                      have hrI : (r : Int) < (m1 : Int) := by omega
                      have hrpos : (0 : Int) < ((r + 1 : Nat) : Int) := by omega
                      have hjI2 : (r : Int) + 1 < (m1 : Int) := by omega
                      have hjI3 : (r : Int) + 1 < (m0 : Int) := by omega
                      have hwr2 : IntKind.i64.wrap (((r + 1 : Nat) : Int) - 1) = (r : Int) := by rw [show ((r + 1 : Nat) : Int) - 1 = (r : Int) by omega]; exact IntWalk.i64_in _ (by omega)
                      clear hsi1 hcc1 hsi0 hcc2
                      by_cases hzx : x < z
                      · skip
                        have HF := Lib.hid (HFAIL.out (fun h => by have := h.2.2.1 (by omega); rw [show r + 1 - 1 = r by omega] at this; have := HX.out; have := HZ.out; omega))
                        go_wp2_with fail
                        go_quiet ((go_at_call 55; exact Calls.quiet_of (l1In_yes hx1 hx2 _)))
                        go_wp2
                        go_ret
                        exact ⟨ret_bool HF.out.symm, (HD.out.trans HDJ.out).drewN _⟩
                      · by_cases hyx : x ≤ y
                        · skip
                          have HF := Lib.hid (HFAIL.out (fun h => by have := h.2.2.2 (by omega); rw [show q + 1 - 1 = q by omega] at this; have := HX.out; have := HY.out; omega))
                          go_wp2_with fail
                          have hzb7 : ¬ x < z := by omega
                          go_quiet ((go_at_call 55; exact Calls.quiet_of (l1In_yes hx1 hx2 _)))
                          go_wp2
                          go_ret
                          exact ⟨ret_bool HF.out.symm, (HD.out.trans HDJ.out).drewN _⟩
                        · have hyx' : y < x := by omega
                          have HG : Hid (cellOk ls (q + 1) (r + 1)) := Lib.hid ⟨by have := HX.out; omega, by have := HX.out; omega, fun _ => by rw [show r + 1 - 1 = r by omega]; have := HX.out; have := HZ.out; omega, fun _ => by rw [show q + 1 - 1 = q by omega]; have := HX.out; have := HY.out; omega⟩
                          go_wp2_with fail
                          have hzb7 : ¬ x < z := by omega
                          have hzb8 : ¬ x ≤ y  := by omega
                          go_quiet ((go_at_call 55; exact Calls.quiet_of (l1In_yes hx1 hx2 _)))
                          go_wp2
                          go_roundw
                          case rel => exact ⟨r + 1 + 1, by omega, by go_num, HDJ.out.drewN _, fun k hk => by
                            rcases Nat.lt_or_ge k (r + 1) with h | h
                            · exact HCJ.out k h
                            · rw [show k = r + 1 by omega]; exact HG.out⟩
                          case measure => simp [intOf]; omega
                  · have hbad : x < 0 ∨ 20 < x := by omega
                    clear hsi1 hcc1 hsi0 hcc2
                    have HF := Lib.hid (HFAIL.out (fun h => by have h1 := h.1; have h2 := h.2.1; have := HX.out; omega))
                    go_wp2_with fail
                    go_quiet ((go_at_call 55; exact Calls.quiet_of (l1In_no hbad _)))
                    go_wp2
                    go_ret
                    exact ⟨ret_bool HF.out.symm, (HD.out.trans HDJ.out).drewN _⟩
                · have hjm : j = m1 := by omega
                  subst hjm
                  clear hsi1 hsi0
                  go_wp2
                  go_roundw
                  case rel => exact ⟨(q + 1) + 1, by omega, by go_num, HD.out.trans HDJ.out, fun k hk => by
                    rcases Nat.lt_or_ge k (q + 1) with h | h
                    · exact HSH.out k h
                    · rw [show k = (q + 1) by omega]; exact HSHI.out, fun k hk => by
                    rcases Nat.lt_or_ge k (q + 1) with h | h
                    · exact HCE.out k h
                    · rw [show k = (q + 1) by omega, HM1.out]; exact HCJ.out⟩
                  case measure => simp [intOf]; omega
          · have hbad : (m1 : Int) < 1 ∨ 16 < (m1 : Int) := by omega
            have HF := Lib.hid (tabB_false (ls := ls) (fun h => by have h1 := h.1.2 (q + 1) (by rw [lensL_len]; exact hiL); have h2 := prevS_le (xs := lensL ls) (k := (q + 1)) (fun j hj => h.1.2 j (by rw [lensL_len]; omega)); unfold shapeAt at h1; rw [lensL_nth hiL, hm1] at h1; omega))
            clear hsi1 hm1 hts hsi0 hm0
            go_wp2_with fail
            go_quiet ((go_at_call 55; exact Calls.quiet_of (l1In_no hbad _)))
            go_wp2
            go_ret
            exact ⟨ret_bool HF.out.symm, HD.out.drewN _⟩
      · have hin : i = n := by omega
        subst hin
        have HT := Lib.hid (tabB_true (ls := ls) ⟨⟨by rw [lensL_len, HL.out]; omega, by rw [lensL_len, HL.out]; exact HSH.out⟩, by rw [HL.out]; exact HCE.out⟩)
        clear hts
        go_wp2
        go_ret
        exact ⟨ret_bool HT.out.symm, HD.out⟩
end Go.Proofs.Ythinbmjcdcmioaa

/-
  The program's test for tableaux. Conditions: lengths below 2^40.
-/

namespace Go.Proofs.Ythinbmjcdcmioaa
open Go.RowKit

/-- The least number that may stand in row i at the place j. -/
def leastM (ls : List (List Int)) : Nat → Nat → Int
  | 0, 0 => 0
  | 0, j + 1 => cel ls 0 j
  | i + 1, 0 => if cel ls i 0 + 1 ≤ 0 then 0 else cel ls i 0 + 1
  | i + 1, j + 1 => if cel ls i (j + 1) + 1 ≤ cel ls (i + 1) j then cel ls (i + 1) j else cel ls i (j + 1) + 1
theorem cellOk_least {ls : List (List Int)} {i j : Nat} (h : ∀ k, k < j → 0 ≤ cel ls i k) : cellOk ls i j ↔ leastM ls i j ≤ cel ls i j ∧ cel ls i j ≤ 20 := by
  unfold cellOk
  cases i with
  | zero =>
    cases j with
    | zero => rw [show leastM ls 0 0 = 0 from rfl]; omega
    | succ j =>
      have h1 := h j (by omega)
      rw [show leastM ls 0 (j + 1) = cel ls 0 j from rfl, show j + 1 - 1 = j by omega]
      omega
  | succ i =>
    rw [show i + 1 - 1 = i by omega]
    cases j with
    | zero =>
      rw [show leastM ls (i + 1) 0 = if cel ls i 0 + 1 ≤ 0 then 0 else cel ls i 0 + 1 from rfl]
      split <;> omega
    | succ j =>
      have h1 := h j (by omega)
      rw [show leastM ls (i + 1) (j + 1) = if cel ls i (j + 1) + 1 ≤ cel ls (i + 1) j then cel ls (i + 1) j else cel ls i (j + 1) + 1 from rfl, show j + 1 - 1 = j by omega]
      split <;> omega
set_option maxHeartbeats 1600000 in
theorem leastAt_any (A : Option Addr) (n c : Nat) (ls : List (List Int)) (w : World) (hs : LS w A n ls) (hn : n ≤ 1099511627776) (i j : Nat) (hi : i < n) (hj : j ≤ (li ls i).length) (hj2 : j ≤ 1099511627776)
    (hu : ∀ q, i = q + 1 → j < (li ls q).length ∧ 0 ≤ cel ls q j ∧ cel ls q j ≤ 20) :
    Calls Try.prog 61 #[.slice A n c, .int .i64 i, .int .i64 j] w fun e w' => e = .returned (.int .i64 (leastM ls i j)) ∧ Drawn w w' := by
  obtain ⟨b, o, A1, m1, c1, rfl, hb, hr1, hsi1, _, _⟩ := hs.at_ hi
  have hiI : (i : Int) < (n : Int) := by omega
  have hm1 : (li ls i).length = m1 := hsi1.1
  cases i with
  | zero =>
    rw [Nat.add_zero] at hr1
    cases j with
    | zero =>
      clear hs hr1 hsi1 hu hm1
      go_enter Try.func61, Try.ntmps61
      go_wp2
      go_ret
      exact ⟨rfl, (by first | exact Drawn.refl _ | exact ⟨_, rfl⟩)⟩
    | succ r =>
      have hrpos : (0 : Int) < ((r + 1 : Nat) : Int) := by omega
      have hwr2 : IntKind.i64.wrap (((r + 1 : Nat) : Int) - 1) = (r : Int) := by rw [show ((r + 1 : Nat) : Int) - 1 = (r : Int) by omega]; exact IntWalk.i64_in _ (by omega)
      have hrI : (r : Int) < (m1 : Int) := by omega
      obtain ⟨b1, o1, rfl, _, hcc1⟩ := hsi1.at_ (by omega)
      have hz := hcc1 r (by omega)
      obtain ⟨z, hz0⟩ : ∃ z, z = cel ls 0 r := ⟨_, rfl⟩
      rw [show nth (li ls 0) r = z from hz0.symm] at hz
      have HZ := Lib.hid hz0
      clear hs hsi1 hcc1 hu hm1 hz0
      go_enter Try.func61, Try.ntmps61
      go_wp2
      go_ret
      exact ⟨by rw [HZ.out]; rfl, (by first | exact Drawn.refl _ | exact ⟨_, rfl⟩)⟩
  | succ q =>
    obtain ⟨b0, o0, A0, m0, c0, e0, _, hr0, hsi0, _, _⟩ := hs.at_ (k := q) (by omega)
    obtain ⟨rfl, rfl⟩ : b = b0 ∧ o = o0 := by simpa using e0
    have hm0 : (li ls q).length = m0 := hsi0.1
    obtain ⟨hu1, hu2, hu3⟩ := hu q rfl
    have hqI : (q : Int) < (n : Int) := by omega
    have hqpos : (0 : Int) < ((q + 1 : Nat) : Int) := by omega
    have hwq : IntKind.i64.wrap (((q + 1 : Nat) : Int) - 1) = (q : Int) := by rw [show ((q + 1 : Nat) : Int) - 1 = (q : Int) by omega]; exact IntWalk.i64_in _ (by omega)
    obtain ⟨b2, o2, rfl, _, hcc2⟩ := hsi0.at_ (by omega)
    have hy := hcc2 j (by omega)
    have hjI0 : (j : Int) < (m0 : Int) := by omega
    obtain ⟨y, hy0⟩ : ∃ y, y = cel ls q j := ⟨_, rfl⟩
    rw [show nth (li ls q) j = y from hy0.symm] at hy
    rw [← hy0] at hu2 hu3
    have hwy : IntKind.i64.wrap (y + 1) = y + 1 := IntWalk.i64_in _ (by omega)
    have HY := Lib.hid hy0
    cases j with
    | zero =>
      rw [Nat.add_zero] at hy
      have hy01 : (0 : Int) < y + 1 := by omega
      have HM : Hid (leastM ls (q + 1) 0 = y + 1) := Lib.hid (by rw [hy0]; show (if cel ls q 0 + 1 ≤ 0 then 0 else cel ls q 0 + 1) = _; rw [if_neg (by omega)])
      clear hs hsi1 hsi0 hcc2 hu hm1 hm0 hu1 e0 hr1 hy0
      go_enter Try.func61, Try.ntmps61
      go_wp2
      go_ret
      exact ⟨by rw [HM.out]; try rfl, (by first | exact Drawn.refl _ | exact ⟨_, rfl⟩)⟩
    | succ r =>
      have hrpos : (0 : Int) < ((r + 1 : Nat) : Int) := by omega
      have hwr2 : IntKind.i64.wrap (((r + 1 : Nat) : Int) - 1) = (r : Int) := by rw [show ((r + 1 : Nat) : Int) - 1 = (r : Int) by omega]; exact IntWalk.i64_in _ (by omega)
      have hrI : (r : Int) < (m1 : Int) := by omega
      obtain ⟨b1, o1, rfl, _, hcc1⟩ := hsi1.at_ (by omega)
      have hz := hcc1 r (by omega)
      obtain ⟨z, hz0⟩ : ∃ z, z = cel ls (q + 1) r := ⟨_, rfl⟩
      rw [show nth (li ls (q + 1)) r = z from hz0.symm] at hz
      have HM : Hid (leastM ls (q + 1) (r + 1) = if y + 1 ≤ z then z else y + 1) := Lib.hid (by rw [hy0, hz0]; rfl)
      clear hs hsi1 hsi0 hcc1 hcc2 hu hm1 hm0 hu1 e0 hy0 hz0
      by_cases hyz : y + 1 ≤ z
      · have hyz2 : ¬ z < y + 1 := by omega
        have HM2 := Lib.hid (HM.out.trans (if_pos hyz))
        go_enter Try.func61, Try.ntmps61
        go_wp2
        go_ret
        exact ⟨by rw [HM2.out]; try rfl, (by first | exact Drawn.refl _ | exact ⟨_, rfl⟩)⟩
      · have hyz2 : z < y + 1 := by omega
        have HM2 := Lib.hid (HM.out.trans (if_neg hyz))
        go_enter Try.func61, Try.ntmps61
        go_wp2
        go_ret
        exact ⟨by rw [HM2.out]; try rfl, (by first | exact Drawn.refl _ | exact ⟨_, rfl⟩)⟩
set_option maxHeartbeats 1600000 in
theorem lengthsOf_any (A : Option Addr) (n c : Nat) (ls : List (List Int)) (w : World) (hs : LS w A n ls) (hn : n ≤ 1099511627776) (_ : ∀ k, k < n → (li ls k).length ≤ 1099511627776) :
    Calls Try.prog 60 #[.slice A n c] w fun e w' => ∃ B c', e = .returned (.slice (some ⟨B, 0, none⟩) n c') ∧ Own w' w.heap.size w'.heap.size (some ⟨B, 0, none⟩) n c' (lensL ls) ∧ Below w.heap.size w w' := by
  have HS := Lib.hid hs
  have HL := Lib.hid hs.1
  clear hs
  go_enter Try.func60, Try.ntmps60
  go_wp2_with (at_make; refine wpList_make_zero rfl (.tmp 7) (.tmp 7) rfl n rfl rfl (by omega) ?_; intro w2 ho2 hb2; have HO2 := Lib.hid ho2; have HB2 := Lib.hid hb2; clear ho2 hb2)
  obtain ⟨B, hB⟩ : ∃ B, B = w.heap.size := ⟨_, rfl⟩
  have HBE : Hid (B = w.heap.size) := Lib.hid hB
  rw [← hB] at HO2 HB2 ⊢
  have HO3 : Hid (Own w2 B (B + 1) (some ⟨B, 0, none⟩) n n ((lensL ls).take 0 ++ List.replicate (n - 0) 0)) := Lib.hid (by simpa using (show Own w2 B (B + 1) (some ⟨B, 0, none⟩) n n (List.replicate n 0) from ⟨HO2.out.1, fun k hk => by simp [Value.ownBlock] at hk; omega⟩))
  have HZ2 : Hid (B + 1 ≤ w2.heap.size) := Lib.hid (by have := HO2.out.lt B rfl; omega)
  clear HO2 hB
  go_loopw [11] (fun iv wr => ∃ i : Nat, i ≤ n ∧ iv = .int .i64 i ∧ Own wr B (B + 1) (some ⟨B, 0, none⟩) n n ((lensL ls).take i ++ List.replicate (n - i) 0) ∧ Below w.heap.size w wr ∧ B + 1 ≤ wr.heap.size)
    (fun iv _ => n - (intOf iv).toNat)
  case atStart => exact ⟨0, Nat.zero_le _, rfl, HO3.out, by have := HB2.out; rwa [HBE.out] at this, HZ2.out⟩
  case round =>
    obtain ⟨i, hi, rfl, hown, hbw, hz⟩ := hrel
    clear HO3 HB2 HZ2
    have HO := Lib.hid hown
    have HB := Lib.hid hbw
    have HZ := Lib.hid hz
    clear hbw hz
    by_cases hlt : i < n
    · have hiI : (i : Int) < (n : Int) := by omega
      have hs' := HS.out.below HB.out (Nat.le_refl _)
      obtain ⟨b', o', A1, m1, c1, rfl, hb', hr', hsi', _, _⟩ := hs'.at_ hlt
      have HM : Hid ((li ls i).length = m1) := Lib.hid hsi'.1
      have hff := hown.frozenAt i
      have hcc := hown.cellAt (k := i) hlt
      obtain ⟨v0, hv0⟩ : ∃ v0, v0 = nth ((lensL ls).take i ++ List.replicate (n - i) 0) i := ⟨_, rfl⟩
      rw [← hv0] at hcc
      have hset := (hown.set_ (k := i) (m1 : Int)).1
      have hq : ((lensL ls).take i ++ List.replicate (n - i) 0).set i (m1 : Int) = (lensL ls).take (i + 1) ++ List.replicate (n - (i + 1)) 0 := by
        have hlen : ((lensL ls).take i).length = i := by simp [lensL_len, HL.out]; omega
        rw [List.set_append_right _ _ (by omega), hlen, Nat.sub_self, show n - i = (n - (i + 1)) + 1 by omega, List.replicate_succ, List.set_cons_zero]
        rw [show (lensL ls).take (i + 1) = (lensL ls).take i ++ [(m1 : Int)] by
          rw [List.take_add_one, ← HM.out, ← lensL_nth (by rw [HL.out]; exact hlt), nth_get? (by rw [lensL_len, HL.out]; exact hlt)]; rfl]
        simp
      rw [hq] at hset
      have HST := Lib.hid hset
      clear hset hown hs' hsi' hq hv0
      go_wp2
      go_roundw
      case rel => exact ⟨i + 1, by omega, by go_num, HST.out, HB.out.setCell (by rw [← HBE.out]; exact Nat.le_refl _) _, by simpa using HZ.out⟩
      case measure => simp [intOf]; omega
    · have hin : i = n := by omega
      subst hin
      have HO4 : Hid (Own wr B (B + 1) (some ⟨B, 0, none⟩) i i (lensL ls)) := Lib.hid (by have := HO.out; simpa [List.take_of_length_le (Nat.le_of_eq ((lensL_len ls).trans HL.out))] using this)
      clear hown
      go_wp2
      go_ret
      exact ⟨_, _, rfl, HO4.out.wide (by rw [HBE.out]; exact Nat.le_refl _) HZ.out, HB.out⟩
set_option maxRecDepth 100000 in
set_option maxHeartbeats 6400000 in
theorem implTab_any (A : Option Addr) (n c : Nat) (ls : List (List Int)) (w : World) (hs : LS w A n ls) (hn : n ≤ 1099511627776) (hne : ∀ k, k < n → (li ls k).length ≤ 1099511627776) :
    Calls Try.prog 28 #[.slice A n c] w fun e w' => e = .returned (.bool (tabB ls)) ∧ Below w.heap.size w w' := by
  have HLN := Lib.hid (lengthsOf_any A n c ls w hs hn hne)
  have HSH := Lib.hid (fun (w1 : World) (lo hi : Nat) (B c' : Nat) (ho : Own w1 lo hi (some ⟨B, 0, none⟩) n c' (lensL ls)) => implIsShape_any (some ⟨B, 0, none⟩) n c' (lensL ls) w1 ho.si hn)
  cases hu : isShapeB (lensL ls) with
  | false =>
    rw [hu] at HSH
    have HF := Lib.hid (tabB_false (ls := ls) (fun h => by rw [isShapeB_true h.1] at hu; simp at hu))
    clear hu hs hne
    go_enter Try.func28, Try.ntmps28
    go_wp2_with (first
      | (go_at_call 60; refine HLN.out.mono ?_; rintro e w1 ⟨B, c', rfl, ho1, hb1⟩; have HO1 := Lib.hid ho1; have HB1 := Lib.hid hb1; clear ho1 hb1)
      | (go_at_call 17; refine (HSH.out _ _ _ _ _ HO1.out).mono ?_; rintro e w2 ⟨rfl, hd2⟩; have HB2 := Lib.hid (HB1.out.trans ((hd2.below _).mono (Nat.le_refl _))); clear hd2))
    go_ret
    exact ⟨ret_bool HF.out.symm, HB2.out⟩
  | true =>
    rw [hu] at HSH
    have HP := Lib.hid (isShapeB_P hu)
    have HS := Lib.hid hs
    have HNE := Lib.hid hne
    have HL := Lib.hid hs.1
    clear hu hs hne
    go_enter Try.func28, Try.ntmps28
    go_wp2_with (first
      | (go_at_call 60; refine HLN.out.mono ?_; rintro e w1 ⟨B, c', rfl, ho1, hb1⟩; have HO1 := Lib.hid ho1; have HB1 := Lib.hid hb1; clear ho1 hb1)
      | (go_at_call 17; refine (HSH.out _ _ _ _ _ HO1.out).mono ?_; rintro e w2 ⟨rfl, hd2⟩; have HB2 := Lib.hid (HB1.out.trans ((hd2.below _).mono (Nat.le_refl _))); clear hd2))
    clear HO1 HB1
    go_loopw [13] (fun iv wr => ∃ i : Nat, i ≤ n ∧ iv = .int .i64 i ∧ Below w.heap.size w wr ∧ ∀ k, k < i → ∀ j, j < (li ls k).length → cellOk ls k j)
      (fun iv _ => n - (intOf iv).toNat)
    case atStart => exact ⟨0, Nat.zero_le _, rfl, HB2.out, fun k hk => absurd hk (by omega)⟩
    case round =>
      obtain ⟨i, hi, rfl, hbw, hce⟩ := hrel
      clear HB2
      have HB := Lib.hid hbw
      have HCE := Lib.hid hce
      clear hbw hce
      by_cases hlt : i < n
      · have hiI : (i : Int) < (n : Int) := by omega
        obtain ⟨b, o, A1, m1, c1, rfl, hb, hr0, hsi0, _, _⟩ := HS.out.at_ hlt
        have HM := Lib.hid hsi0.1
        have HSI0 := Lib.hid hsi0
        have hm2 : m1 ≤ 1099511627776 := by have := HNE.out i hlt; rw [HM.out] at this; exact this
        have hr1 : wr.cell? ⟨b, o + i, none⟩ = some (.slice A1 m1 c1) := (HB.out.cell (p := ⟨b, o + i, none⟩) hb).trans hr0
        clear hsi0 hr0 hb
        go_wp2_with fail
        clear hr1
        go_loopw [20] (fun jv wx => ∃ j : Nat, j ≤ m1 ∧ jv = .int .i64 j ∧ Below w.heap.size w wx ∧ ∀ k, k < j → cellOk ls i k)
          (fun jv _ => m1 - (intOf jv).toNat)
        case atStart => exact ⟨0, Nat.zero_le _, rfl, HB.out, fun k hk => absurd hk (by omega)⟩
        case round =>
          obtain ⟨j, hj, rfl, hbw, hcj⟩ := hrel
          clear HB
          have HB := Lib.hid hbw
          have HCJ := Lib.hid hcj
          clear hbw hcj
          by_cases hlt2 : j < m1
          · have hjI : (j : Int) < (m1 : Int) := by omega
            have hs2 := HS.out.below HB.out (Nat.le_refl _)
            have HIM : Hid (∀ q, i = q + 1 → j < (li ls q).length ∧ 0 ≤ cel ls q j ∧ cel ls q j ≤ 20) := Lib.hid (fun q hq => by
              subst hq
              have h1 := HP.out.2 (q + 1) (by rw [lensL_len, HL.out]; exact hlt)
              have h2 : nth (lensL ls) (q + 1) ≤ nth (lensL ls) q := h1.2
              rw [lensL_nth (by rw [HL.out]; exact hlt), lensL_nth (by rw [HL.out]; omega), HM.out] at h2
              have h3 : j < (li ls q).length := by omega
              have h4 := HCE.out q (by omega) j h3
              exact ⟨h3, h4.1, h4.2.1⟩)
            have HLA := Lib.hid (leastAt_any (some ⟨b, o, none⟩) n c ls wr hs2 hn i j hlt (by rw [HM.out]; omega) (by omega) HIM.out)
            have HIFF := Lib.hid (cellOk_least (ls := ls) (i := i) (j := j) (fun k hk => (HCJ.out k hk).1))
            obtain ⟨y, hy⟩ : ∃ y, y = leastM ls i j := ⟨_, rfl⟩
            rw [← hy] at HLA HIFF
            have hsi1 := HSI0.out.below HB.out (Nat.le_refl _)
            obtain ⟨b1, o1, rfl, _, hcc1⟩ := hsi1.at_ (by omega)
            have hx := hcc1 j hlt2
            obtain ⟨x, hx0⟩ : ∃ x, x = cel ls i j := ⟨_, rfl⟩
            rw [show nth (li ls i) j = x from hx0.symm] at hx
            rw [← hx0] at HIFF
            have HX := Lib.hid hx0
            have HFAIL : Hid (¬ cellOk ls i j → tabB ls = false) := Lib.hid (fun h => tabB_false (fun h2 => h (h2.2 i (by rw [HL.out]; exact hlt) j (by rw [HM.out]; exact hlt2))))
            clear HIM hs2 hy hsi1 hcc1 hx0
            by_cases hxy : x < y
            · have HF := Lib.hid (HFAIL.out (fun h => by have := HIFF.out.1 h; omega))
              clear HFAIL
              go_wp2_with (go_at_call 61; refine HLA.out.mono ?_; rintro e wz ⟨rfl, hd⟩; have HDZ := Lib.hid hd; clear hd)
              go_ret
              exact ⟨ret_bool HF.out.symm, HB.out.trans (HDZ.out.below _)⟩
            · by_cases hx20 : 20 < x
              · have HF := Lib.hid (HFAIL.out (fun h => by have := HIFF.out.1 h; omega))
                clear HFAIL
                have hxy2 : ¬ x < y := by omega
                go_wp2_with (go_at_call 61; refine HLA.out.mono ?_; rintro e wz ⟨rfl, hd⟩; have HDZ := Lib.hid hd; clear hd)
                go_ret
                exact ⟨ret_bool HF.out.symm, HB.out.trans (HDZ.out.below _)⟩
              · have HG := Lib.hid (HIFF.out.2 ⟨by omega, by omega⟩)
                clear HFAIL
                have hxy2 : ¬ x < y := by omega
                have hx202 : ¬ 20 < x := by omega
                go_wp2_with (go_at_call 61; refine HLA.out.mono ?_; rintro e wz ⟨rfl, hd⟩; have HDZ := Lib.hid hd; clear hd)
                go_roundw
                case rel => exact ⟨j + 1, by omega, by go_num, HB.out.trans (HDZ.out.below _), fun k hk => by
                  rcases Nat.lt_or_ge k j with h | h
                  · exact HCJ.out k h
                  · rw [show k = j by omega]; exact HG.out⟩
                case measure => simp [intOf]; omega
          · have hjm : j = m1 := by omega
            subst hjm
            go_wp2
            go_roundw
            case rel => exact ⟨i + 1, by omega, by go_num, HB.out, fun k hk => by
              rcases Nat.lt_or_ge k i with h | h
              · exact HCE.out k h
              · rw [show k = i by omega, HM.out]; exact HCJ.out⟩
            case measure => simp [intOf]; omega
      · have hin : i = n := by omega
        subst hin
        have HT := Lib.hid (tabB_true (ls := ls) ⟨HP.out, by rw [HL.out]; exact HCE.out⟩)
        go_wp2
        go_ret
        exact ⟨ret_bool HT.out.symm, HB.out⟩
end Go.Proofs.Ythinbmjcdcmioaa

/-
  Opening a slice of integers that came in; closed facts of this dump. No conditions.
-/




namespace Go.Proofs.Ythinbmjcdcmioaa
open Go.ChangeShapes Go.WideShapes Go.ChangeAt Go.RowKit

theorem own : ownKnob Try.prog.godebug = none := by kernel_rfl
theorem laidOut : laidOutB Try.prog = true := by kernel_rfl

/-- What an opened slice of integers gives: it reads as its numbers. -/
theorem SI.of_cells {w : World} {a : Addr} {n : Nat} {zs : List Int} (hl : n ≤ zs.length) (hc : ∀ i, i < zs.length → w.cell? (a.add i) = some (.int .i64 (zs.getD i 0))) : SI w (some a) n (zs.take n) := by
  refine ⟨by simp; omega, fun hn => ?_⟩
  obtain ⟨b, o, s⟩ := a
  have h0 := hc 0 (by omega)
  have hs : s = none := by simpa [Addr.add] using World.cell?_spot h0
  subst hs
  refine ⟨b, o, rfl, block_lt_of_cell (a := ⟨b, o, none⟩) (by simpa [Addr.add] using h0), fun k hk => ?_⟩
  rw [nth_take hk, ← add_pt]
  exact hc k (by omega)

/-- Every number fits an int. -/
def Fits (xs : List Int) : Prop := ∀ x ∈ xs, -9223372036854775808 ≤ x ∧ x ≤ 9223372036854775807
theorem SI.of_trod {H : Type} {enc : TypeId × Value → H} {W : World} {q : Nat} {f : Nat → Bool} {a0 : Option Addr} {len0 cap0 : Nat} {d : DataW H} {p : List MemPlace}
    (h0 : DataW.Trod enc Try.prog W q f true 22 (.slice a0 len0 cap0) d p) : ∃ xs, SI W a0 len0 xs ∧ Fits xs := by
  obtain ⟨fuel, hf⟩ := h0
  rcases open_ints Try.underlying22 Try.underlying3 (by kernel_rfl) hf with ⟨hcs, _⟩ | ⟨x, l, c, zs, hcs, _, hl, hm, hz, _, hcell, hwz⟩
  · simp [Value.cells] at hcs
    obtain ⟨rfl, rfl, rfl⟩ := hcs
    exact ⟨[], SI.nil _ _, fun x hx => by cases hx⟩
  · simp [Value.cells] at hcs
    obtain ⟨rfl, rfl, rfl⟩ := hcs
    exact ⟨_, SI.of_cells (by rw [hz]; split <;> omega) hcell, fun n hn => bounds_i64 (hwz n (List.mem_of_mem_take hn))⟩
end Go.Proofs.Ythinbmjcdcmioaa

/-
  Opening a slice of slices of numbers that came in. No conditions.
-/



namespace Go.Proofs.Ythinbmjcdcmioaa
open Go.ChangeShapes Go.WideShapes Go.ChangeAt Go.RowKit

theorem LS.of_trod {H : Type} {enc : TypeId × Value → H} {W : World} {q : Nat} {a0 : Option Addr} {len0 cap0 : Nat} {d : DataW H} {p : List MemPlace}
    (h0 : DataW.Trod enc Try.prog W q (fun _ => true) true 27 (.slice a0 len0 cap0) d p) : ∃ ls, LS W a0 len0 ls ∧ len0 ≤ 9223372036854775807 ∧ (∀ k, k < len0 → (li ls k).length ≤ 9223372036854775807) := by
  obtain ⟨fuel, hf⟩ := h0
  rcases Go.Deep.open_int_rows Try.underlying27 Try.underlying22 Try.underlying3 (by kernel_rfl) (by kernel_rfl) hf with ⟨hcs, _⟩ | ⟨a, len, cap, A, L, C, Z, hcs, hb, hl, hm, _, hx⟩
  · simp [Value.cells] at hcs
    obtain ⟨rfl, rfl, rfl⟩ := hcs
    exact ⟨[], LS.nil _ _, by omega, fun k hk => absurd hk (by omega)⟩
  · simp [Value.cells] at hcs
    obtain ⟨rfl, rfl, rfl⟩ := hcs
    refine ⟨(List.range len0).map fun r => (Z r).take (L r), ⟨by simp, fun hn => ?_⟩, by unfold maxLen at hm; omega, fun k hk => ?_⟩
    · obtain ⟨b, o, s⟩ := a
      have h1 := (hx 0 (by omega)).1
      have hs : s = none := by simpa [Addr.add] using World.cell?_spot h1
      subst hs
      refine ⟨b, o, rfl, block_lt_of_cell (a := ⟨b, o, none⟩) (by simpa [Addr.add] using h1), fun k hk => ?_⟩
      obtain ⟨h1, h2, h3, h4, _, h6, h7⟩ := hx k (by omega)
      rw [add_pt] at h1
      have et : li ((List.range len0).map fun r => (Z r).take (L r)) k = (Z k).take (L k) := by simp [li, List.getD, hk]
      rw [et]
      refine ⟨A k, L k, C k, h1, ?_, h2, fun h => by have := h6 h; omega⟩
      cases hA : A k with
      | none =>
        have := h6 hA
        have hL : L k = 0 := by omega
        rw [hL, List.take_zero]
        exact SI.nil _ _
      | some x =>
        obtain ⟨_, h8⟩ := h7 x hA
        exact SI.of_cells (by omega) fun i hi => h8 i (by omega)
    · have et : li ((List.range len0).map fun r => (Z r).take (L r)) k = (Z k).take (L k) := by simp [li, List.getD, hk]
      obtain ⟨_, h2, h3, _⟩ := hx k (by omega)
      rw [et, List.length_take]
      unfold maxLen at h3
      omega
end Go.Proofs.Ythinbmjcdcmioaa
