/-
  Texts Words to StrM, merged. Conditions: as each says.
-/
import Derived.Test.YtfaegfhbbkicgaaRows
import Derived.WalkKit
import Derived.WalkSpells
import Derived.WalkLawsBesides
import Derived.Deep.QuietTactic
import Derived.BigQuiet
import Derived.Handy
import Derived.Lib.Hide
import Derived.Deep.AppendLies
import Derived.Laws.OwnMore
import Derived.Maps.AppendAt
import Derived.Deep.MidRow
import Derived.Laws.CopyOwn
import Derived.RegionTactic
import Derived.BigRegion
import Derived.Deep.Cut
import Derived.Deep.RegionHeld3
/-
  Words for memory: a slice of integers that reads as a list; plain lemmas. No conditions.
-/










namespace Go.Proofs.Ytfaegfhbbkicgaa
open Go.RowKit

theorem add_pt (b o k : Nat) : (Addr.mk b o none).add k = ⟨b, o + k, none⟩ := Addr.add_lit b o k

/-- The k-th number of a list (not unfolded by the walk). -/
def nth (xs : List Int) (k : Nat) : Int := xs.getD k 0
theorem nth_get {xs : List Int} {k : Nat} (h : k < xs.length) : nth xs k = xs[k] := by simp [nth, List.getD, h]
theorem nth_get? {xs : List Int} {k : Nat} (h : k < xs.length) : xs[k]? = some (nth xs k) := by simp [nth, List.getD, h]
theorem take_nth {xs : List Int} {k : Nat} (h : k < xs.length) : xs.take (k + 1) = xs.take k ++ [nth xs k] := by
  rw [List.take_succ_eq_append_getElem h, nth_get h]

/-- The slice (A, n) reads as the integers xs. -/
def SI (w : World) (A : Option Addr) (n : Nat) (xs : List Int) : Prop :=
  xs.length = n ∧ (0 < n → ∃ b o, A = some ⟨b, o, none⟩ ∧ b < w.heap.size ∧ ∀ k, k < n → w.cell? ⟨b, o + k, none⟩ = some (.int .i64 (nth xs k)))

section
variable {w w' : World} {A : Option Addr} {n : Nat} {xs : List Int}
theorem SI.nil (w : World) (A : Option Addr) : SI w A 0 [] := ⟨rfl, fun h => absurd h (by omega)⟩
theorem SI.at_ (h : SI w A n xs) (hn : 0 < n) : ∃ b o, A = some ⟨b, o, none⟩ ∧ b < w.heap.size ∧ ∀ k, k < n → w.cell? ⟨b, o + k, none⟩ = some (.int .i64 (nth xs k)) := h.2 hn
theorem SI.below {B : Nat} (h : SI w A n xs) (hb : Below B w w') (hB : w.heap.size ≤ B) : SI w' A n xs :=
  ⟨h.1, fun hn => by
    obtain ⟨b, o, e, hl, hc⟩ := h.2 hn
    have hs := hb.size
    exact ⟨b, o, e, by omega, fun k hk => (hb.cell (p := ⟨b, o + k, none⟩) (by show b < B; omega)).trans (hc k hk)⟩⟩
theorem SI.drewN (h : SI w A n xs) (k : Nat) : SI (w.drewN k) A n xs := h
theorem SI.drew (h : SI w A n xs) : SI w.drew A n xs := h
theorem SI.alloc (h : SI w A n xs) (o : Obj) : SI (w.alloc o) A n xs := h.below ((Below.refl w.heap.size w).alloc (Nat.le_refl _) o) (Nat.le_refl _)
theorem nth_take {k j : Nat} (hj : j < k) : nth (xs.take k) j = nth xs j := by simp [nth, List.getD, hj]
theorem SI.take {k : Nat} (h : SI w A n xs) (hk : k ≤ n) : SI w A k (xs.take k) := by
  refine ⟨by rw [List.length_take, h.1]; omega, fun h0 => ?_⟩
  obtain ⟨b, o, e, hb, hc⟩ := h.2 (by omega)
  exact ⟨b, o, e, hb, fun j hj => by rw [nth_take hj]; exact hc j (by omega)⟩
theorem SI.of_own {base : Nat} {c : Nat} (h : w.ownsRow base 3 1 (.slice A n c) n (xs.map (Value.int .i64))) : SI w A n xs := by
  have h1 := h.1
  simp at h1
  refine ⟨h1, fun hn => ?_⟩
  obtain ⟨g, cap, hv, _, hlt⟩ := h.form hn
  have hA : A = some ⟨g, 0, none⟩ := by injection hv
  subst hA
  refine ⟨g, 0, rfl, hlt, fun k hk => ?_⟩
  have := h.cells (g := g) rfl k (.int .i64 (nth xs k)) (by rw [List.getElem?_map, nth_get? (show k < xs.length by omega)]; rfl)
  rw [add_pt] at this
  exact this
end

/-- w' is w but for draws. -/
def Drawn (w w' : World) : Prop := ∃ m, w' = w.drewN m
theorem Drawn.refl (w : World) : Drawn w w := ⟨0, rfl⟩
theorem Drawn.drewN {w w' : World} (h : Drawn w w') (n : Nat) : Drawn w (w'.drewN n) := by
  obtain ⟨m, rfl⟩ := h; exact ⟨m + n, by rw [World.drewN_drewN]⟩
theorem Drawn.trans {w w' w'' : World} (h : Drawn w w') (h' : Drawn w' w'') : Drawn w w'' := by
  obtain ⟨m, rfl⟩ := h'; exact h.drewN m
theorem Drawn.heap {w w' : World} (h : Drawn w w') : w'.heap = w.heap := by obtain ⟨m, rfl⟩ := h; rfl
theorem Drawn.below {w w' : World} (h : Drawn w w') (B : Nat) : Below B w w' := by obtain ⟨m, rfl⟩ := h; exact ⟨rfl, rfl, rfl, Nat.le_refl _, fun _ _ => rfl⟩
theorem Drawn.si {w w' : World} (h : Drawn w w') {A : Option Addr} {n : Nat} {xs : List Int} (hs : SI w A n xs) : SI w' A n xs := by obtain ⟨m, rfl⟩ := h; exact hs
/-- Block g is just the cells cs of element type t, none frozen. -/
def Blk (w : World) (g : Nat) (t : TypeId) (cs : Array Value) : Prop := w.heap[g]? = some (.cells cs t (0, 0))
section
variable {w w' : World} {g : Nat} {t : TypeId} {cs : Array Value}
theorem Blk.lt (h : Blk w g t cs) : g < w.heap.size := by
  rcases Nat.lt_or_ge g w.heap.size with hlt | hge
  · exact hlt
  · unfold Blk at h; rw [Array.getElem?_eq_none hge] at h; cases h
theorem Blk.cell (h : Blk w g t cs) (i : Nat) : w.cell? ⟨g, i, none⟩ = cs[i]? := cell_of_row w g i cs t (0, 0) h
theorem Blk.frozen (h : Blk w g t cs) (i : Nat) : w.frozen? ⟨g, i, none⟩ = false := by
  unfold Blk at h
  simp [World.frozen?, h]
theorem Blk.new (w : World) (t : TypeId) (cs : Array Value) : Blk (w.alloc (.cells cs t)) w.heap.size t cs := heap_alloc_new w _
theorem Blk.drawn (h : Blk w g t cs) (hd : Drawn w w') : Blk w' g t cs := by obtain ⟨m, rfl⟩ := hd; exact h
theorem Blk.drewN (h : Blk w g t cs) (n : Nat) : Blk (w.drewN n) g t cs := h
theorem Blk.alloc (h : Blk w g t cs) (o : Obj) : Blk (w.alloc o) g t cs := (Below.heap_alloc w o g h.lt).trans h
theorem Blk.set_ (h : Blk w g t cs) (i : Nat) (u : Value) : Blk (w.setCell ⟨g, i, none⟩ u) g t (cs.setIfInBounds i u) := by
  unfold Blk at h ⊢
  simp [World.setCell, Array.getElem?_modify, h]
theorem Blk.far (h : Blk w g t cs) {p : Addr} (hp : g ≠ p.block) (u : Value) : Blk (w.setCell p u) g t cs := (Below.heap_setCell w p u g hp).trans h
theorem Blk.below {B : Nat} (h : Blk w g t cs) (hb : Below B w w') (hg : g < B) : Blk w' g t cs := (hb.block g hg).trans h
theorem Blk.row (h : Blk w g t cs) (cs' : Array Value) : Blk (w.setRow g cs') g t cs' := setRow_heap w g cs cs' t (0, 0) h
theorem Blk.row_far {g' : Nat} (h : Blk w g t cs) (hne : g ≠ g') (cs' : Array Value) : Blk (w.setRow g' cs') g t cs := (setRow_other w g' g cs' hne).trans h
theorem Blk.grown {row : Option Nat} (h : Blk w g t cs) (hb : w.grownBy w' row) (hg : some g ≠ row) : Blk w' g t cs := (hb.block g h.lt hg).trans h
end
theorem grownBy_setRow (w : World) (g : Nat) (cs : Array Value) : w.grownBy (w.setRow g cs) (some g) := ⟨rfl, rfl, rfl, by simp, fun k _ hk => setRow_other w g k cs (fun e => hk (by rw [e]))⟩

/-- A whole array stored into a block that is known: the world behind it is a variable. -/
theorem wpList_store_blk {P : Program} {ops : Array Oper} {rest : List Oper} {o : Oper} {a : Act} {w : World} {Q : Exit → Act → World → Prop} (hgd : o.guard = none) (ty : TypeId) (x y : Operand) (ho : o.op = .store ty x y)
    (g : Nat) (cs : Array Value) (hx : a.eval x = .pointer (some ⟨g, 0, none⟩)) (hy : a.eval y = .agg cs) (t : TypeId) (old : Array Value) (hg : Blk w g t old)
    (hi : (P.info? ty).map (·.size) = some cs.size) (hsz : old.size = cs.size) (h1 : cs.all (·.oneCell') = true)
    (hK : ∀ w', Blk w' g t cs → w.grownBy w' (some g) → wpList P ops Q rest (a.put o.dst undef) w') : wpList P ops Q (o :: rest) a w := by
  refine wpList_plain hgd fun K hK' => ?_
  unfold Oper.wp execOp
  simp only [ho, hx, hy, Instr.storeAt, Instr.sureAddr, Sem.run_bind, Sem.run_pure, Result.andThen_ok, run_storeVar_row w g t ty old cs hg hi hsz h1]
  exact hK' _ _ (hK _ (hg.row cs) (grownBy_setRow w g cs))
/-- A whole array read out of a block that is known. -/
theorem wpList_load_blk {P : Program} {ops : Array Oper} {rest : List Oper} {o : Oper} {a : Act} {w : World} {Q : Exit → Act → World → Prop} (hgd : o.guard = none) (ty : TypeId) (x : Operand) (ho : o.op = .load ty x)
    (g : Nat) (hx : a.eval x = .pointer (some ⟨g, 0, none⟩)) (t : TypeId) (cs : Array Value) (n : Nat) (e : TypeId) (hg : Blk w g t cs)
    (hu : P.underlying ty = some (.array n e)) (hi : (P.info? ty).map (·.size) = some cs.size)
    (h : wpList P ops Q rest (a.put o.dst (.agg cs)) w) : wpList P ops Q (o :: rest) a w :=
  wpList_load_row hgd ty x ho g hx t cs (0, 0) _ hg hu rfl hi h
/-- Two results, the first an array in a block that is known. -/
theorem results_blk_tmp {P : Program} {fn : Func} {p q : Tmp} {ty : TypeId} (h : fn.results = #[.cell p ty, .tmp q]) (tmps : Array Value) (w : World) (g : Nat) (t : TypeId) (cs : Array Value) (n : Nat) (e : TypeId)
    (hp : tmps.getD p undef = .pointer (some ⟨g, 0, none⟩)) (hg : Blk w g t cs) (hu : P.underlying ty = some (.array n e)) (hi : (P.info? ty).map (·.size) = some cs.size) :
    (results fn tmps).run P w = .ok (.tuple #[.agg cs, tmps.getD q undef]) w := by
  have hp' : tmps[p]?.getD undef = .pointer (some ⟨g, 0, none⟩) := by simpa using hp
  simp [results, h, hp', asAddr, run_loadVar_row w g t ty cs (0, 0) _ hg hu rfl hi]
theorem results_blk {P : Program} {fn : Func} {p : Tmp} {ty : TypeId} (h : fn.results = #[.cell p ty]) (tmps : Array Value) (w : World) (g : Nat) (t : TypeId) (cs : Array Value) (n : Nat) (e : TypeId)
    (hp : tmps.getD p undef = .pointer (some ⟨g, 0, none⟩)) (hg : Blk w g t cs) (hu : P.underlying ty = some (.array n e)) (hi : (P.info? ty).map (·.size) = some cs.size) :
    (results fn tmps).run P w = .ok (.agg cs) w :=
  results_cell_row h tmps w g t cs (0, 0) _ hp hg hu rfl hi
theorem dr2 {w : World} {m n : Nat} : ∃ k, (w.drewN m).drewN n = w.drewN k := ⟨m + n, by rw [World.drewN_drewN]⟩
theorem dr0 {w : World} : ∃ k, w = w.drewN k := ⟨0, rfl⟩
theorem below_drewN (B : Nat) (w : World) (n : Nat) : Below B w (w.drewN n) := ⟨rfl, rfl, rfl, Nat.le_refl _, fun _ _ => rfl⟩
theorem ret_eq {a b : Value} (h : a = b) : Ending.returned a = .returned b := by rw [h]
theorem ret_int {k : IntKind} {a b : Int} (h : a = b) : Ending.returned (.int k a) = .returned (.int k b) := by rw [h]
theorem ret_bool {a b : Bool} (h : a = b) : Ending.returned (.bool a) = .returned (.bool b) := by rw [h]

theorem Try.infoInt : (Try.prog.info? 3).map (fun i => (i.zero, i.size, i.bytes)) = some (some (.int .i64 0), 1, 8) := by kernel_rfl
end Go.Proofs.Ytfaegfhbbkicgaa

/-
  Rows modulo a number: sums of multiples of rows, the columns at which such sums begin, rows in echelon form. No conditions but p ≥ 2 where it is said.
-/

namespace Go.Proofs.Ytfaegfhbbkicgaa

/-- Zero modulo p at the first n columns. -/
def Z0 (p : Int) (n : Nat) (v : Nat → Int) : Prop := ∀ k, k < n → p ∣ v k
/-- v is a sum of multiples of the rows, modulo p, at the first n columns. -/
def Sp (p : Int) (n : Nat) : List (Nat → Int) → (Nat → Int) → Prop
  | [], v => Z0 p n v
  | e :: R, v => ∃ a : Int, Sp p n R (fun k => v k - a * e k)
section
variable {p : Int} {n : Nat}
theorem Sp.congr : ∀ {R : List (Nat → Int)} {u v : Nat → Int}, (∀ k, k < n → p ∣ u k - v k) → Sp p n R u → Sp p n R v
  | [], u, v, h, hu => fun k hk => by
    have h1 := h k hk
    have h2 := hu k hk
    have h3 := Int.dvd_sub h2 h1
    have e : u k - (u k - v k) = v k := by omega
    rwa [e] at h3
  | e :: R, u, v, h, ⟨a, hu⟩ => ⟨a, Sp.congr (fun k hk => by
      have h1 := h k hk
      have e1 : u k - a * e k - (v k - a * e k) = u k - v k := by omega
      rwa [e1]) hu⟩
theorem Sp.of_eq {R : List (Nat → Int)} {u v : Nat → Int} (hu : Sp p n R u) (h : ∀ k, k < n → u k = v k) : Sp p n R v :=
  hu.congr fun k hk => by rw [h k hk, Int.sub_self]; exact Int.dvd_zero _
theorem Sp.zero : ∀ {R : List (Nat → Int)} {v : Nat → Int}, Z0 p n v → Sp p n R v
  | [], _, h => h
  | e :: R, v, h => ⟨0, Sp.zero (R := R) fun k hk => by
      have := h k hk
      simpa using this⟩
theorem Sp.add : ∀ {R : List (Nat → Int)} {u v : Nat → Int}, Sp p n R u → Sp p n R v → Sp p n R (fun k => u k + v k)
  | [], _, _, hu, hv => fun k hk => Int.dvd_add (hu k hk) (hv k hk)
  | e :: R, u, v, ⟨a, hu⟩, ⟨b, hv⟩ => ⟨a + b, (Sp.add hu hv).of_eq fun k _ => by
      show u k - a * e k + (v k - b * e k) = u k + v k - (a + b) * e k
      rw [Int.add_mul]; omega⟩
theorem Sp.mul (c : Int) : ∀ {R : List (Nat → Int)} {v : Nat → Int}, Sp p n R v → Sp p n R (fun k => c * v k)
  | [], _, h => fun k hk => Int.dvd_mul_of_dvd_right (h k hk)
  | e :: R, v, ⟨a, h⟩ => ⟨c * a, (Sp.mul c h).of_eq fun k _ => by
      show c * (v k - a * e k) = c * v k - c * a * e k
      rw [Int.mul_sub, Int.mul_assoc]⟩
theorem Sp.mem : ∀ {R : List (Nat → Int)} {e : Nat → Int}, e ∈ R → Sp p n R e
  | f :: R, e, h => by
    rcases List.mem_cons.1 h with rfl | h'
    · exact ⟨1, Sp.zero fun k _ => by
        show p ∣ e k - 1 * e k
        rw [Int.one_mul, Int.sub_self]; exact Int.dvd_zero _⟩
    · exact ⟨0, (Sp.mem h').of_eq fun k _ => by
        show e k = e k - 0 * f k
        rw [Int.zero_mul]; omega⟩
theorem Sp.trans {R' : List (Nat → Int)} : ∀ {R : List (Nat → Int)} {v : Nat → Int}, (∀ r, r ∈ R → Sp p n R' r) → Sp p n R v → Sp p n R' v
  | [], _, _, h => Sp.zero h
  | e :: R, v, hr, ⟨a, h⟩ => by
    have h1 := Sp.trans (fun r hr' => hr r (List.mem_cons_of_mem _ hr')) h
    have h2 := (hr e (List.mem_cons_self ..)).mul a
    exact (h1.add h2).of_eq fun k _ => by
      show v k - a * e k + a * e k = v k
      omega
theorem Sp.same {R R' : List (Nat → Int)} (h : ∀ r, r ∈ R → Sp p n R' r) (h' : ∀ r, r ∈ R' → Sp p n R r) (v : Nat → Int) : Sp p n R v ↔ Sp p n R' v :=
  ⟨Sp.trans h, Sp.trans h'⟩
theorem Sp.sub {R : List (Nat → Int)} {u v : Nat → Int} (hu : Sp p n R u) (hv : Sp p n R v) : Sp p n R (fun k => u k - v k) :=
  (hu.add (hv.mul (-1))).of_eq fun k _ => by
    show u k + -1 * v k = u k - v k
    omega
theorem Sp.zero_at {c : Nat} (hc : c < n) : ∀ {R : List (Nat → Int)} {v : Nat → Int}, (∀ r, r ∈ R → p ∣ r c) → Sp p n R v → p ∣ v c
  | [], _, _, h => h c hc
  | e :: R, v, hr, ⟨a, h⟩ => by
    have h1 := Sp.zero_at hc (fun r hr' => hr r (List.mem_cons_of_mem _ hr')) h
    have h2 := Int.dvd_add h1 (Int.dvd_mul_of_dvd_right (b := a) (hr e (List.mem_cons_self ..)))
    have e1 : v c - a * e c + a * e c = v c := by omega
    rwa [e1] at h2
theorem Sp.app_left {R R' : List (Nat → Int)} {v : Nat → Int} (h : Sp p n R v) : Sp p n (R ++ R') v :=
  h.trans fun _ hr => Sp.mem (List.mem_append_left _ hr)
theorem Sp.app_right {R R' : List (Nat → Int)} {v : Nat → Int} (h : Sp p n R' v) : Sp p n (R ++ R') v :=
  h.trans fun _ hr => Sp.mem (List.mem_append_right _ hr)

/-- The first column other than 0. -/
def Lead (p : Int) (n : Nat) (v : Nat → Int) (j : Nat) : Prop := j < n ∧ ¬ p ∣ v j ∧ ∀ i, i < j → p ∣ v i
theorem Lead.uniq {v : Nat → Int} {i j : Nat} (h : Lead p n v i) (h' : Lead p n v j) : i = j := by
  rcases Nat.lt_trichotomy i j with hlt | rfl | hlt
  · exact absurd (h'.2.2 i hlt) h.2.1
  · rfl
  · exact absurd (h.2.2 j hlt) h'.2.1
/-- Rows with columns of their own: 1 there, 0 before it, and 0 there in all later rows. -/
def Ech (p : Int) (n : Nat) : List ((Nat → Int) × Nat) → Prop
  | [] => True
  | (e, c) :: R => c < n ∧ p ∣ e c - 1 ∧ (∀ i, i < c → p ∣ e i) ∧ (∀ x, x ∈ R → p ∣ x.1 c) ∧ Ech p n R
theorem Ech.at_ : ∀ {R : List ((Nat → Int) × Nat)}, Ech p n R → ∀ {x}, x ∈ R → x.2 < n ∧ p ∣ x.1 x.2 - 1 ∧ ∀ i, i < x.2 → p ∣ x.1 i
  | (e, c) :: R, h, x, hx => by
    rcases List.mem_cons.1 hx with rfl | hx'
    · exact ⟨h.1, h.2.1, h.2.2.1⟩
    · exact Ech.at_ h.2.2.2.2 hx'
theorem one_not (hp : 2 ≤ p) {x : Int} (h : p ∣ x - 1) : ¬ p ∣ x := fun h' => by
  have h1 := Int.dvd_sub h' h
  have e : x - (x - 1) = 1 := by omega
  rw [e] at h1
  have := Int.le_of_dvd (by decide) h1
  omega
theorem Ech.lead_mem (hp : 2 ≤ p) {R : List ((Nat → Int) × Nat)} (h : Ech p n R) {x : (Nat → Int) × Nat} (hx : x ∈ R) : Lead p n x.1 x.2 := by
  obtain ⟨h1, h2, h3⟩ := h.at_ hx
  exact ⟨h1, one_not hp h2, h3⟩
/-- A sum of multiples of such rows is zero, or begins at one of their columns. -/
theorem Ech.lead (hp : 2 ≤ p) : ∀ {R : List ((Nat → Int) × Nat)}, Ech p n R → ∀ {v}, Sp p n (R.map (·.1)) v → Z0 p n v ∨ ∃ x, x ∈ R ∧ Lead p n v x.2
  | [], _, v, hv => .inl hv
  | (e, c) :: R, h, v, ⟨a, hv⟩ => by
    obtain ⟨hc, he, hbe, hz, hR⟩ := h
    have hwc : p ∣ v c - a * e c := Sp.zero_at hc (v := fun k => v k - a * e k) (fun r hr => by
      obtain ⟨x, hx, rfl⟩ := List.mem_map.1 hr
      exact hz x hx) hv
    have ih := Ech.lead hp hR hv
    by_cases ha : p ∣ a
    · have hk : ∀ k, p ∣ v k ↔ p ∣ v k - a * e k := fun k => by
        have hd : p ∣ a * e k := Int.dvd_mul_of_dvd_left ha
        refine ⟨fun hh => Int.dvd_sub hh hd, fun hh => ?_⟩
        have := Int.dvd_add hh hd
        have e1 : v k - a * e k + a * e k = v k := by omega
        rwa [e1] at this
      rcases ih with hz0 | ⟨x, hx, hl⟩
      · exact .inl fun k hk' => (hk k).2 (hz0 k hk')
      · exact .inr ⟨x, List.mem_cons_of_mem _ hx, hl.1, fun hh => hl.2.1 ((hk _).1 hh), fun i hi => (hk i).2 (hl.2.2 i hi)⟩
    · have hvc : ¬ p ∣ v c := fun hh => by
        have h1 := Int.dvd_sub hh hwc
        have e1 : v c - (v c - a * e c) = a * e c := by omega
        rw [e1] at h1
        have h2 := Int.dvd_mul_of_dvd_right (b := a) he
        have h3 := Int.dvd_sub h1 h2
        have e2 : a * e c - a * (e c - 1) = a := by rw [Int.mul_sub]; omega
        rw [e2] at h3
        exact ha h3
      have hbefore : ∀ k, k < c → (p ∣ v k ↔ p ∣ v k - a * e k) := fun k hk => by
        have hd : p ∣ a * e k := Int.dvd_mul_of_dvd_right (hbe k hk)
        refine ⟨fun hh => Int.dvd_sub hh hd, fun hh => ?_⟩
        have := Int.dvd_add hh hd
        have e1 : v k - a * e k + a * e k = v k := by omega
        rwa [e1] at this
      have hfirst : (∀ i, i < c → p ∣ v i) → ∃ x, x ∈ (e, c) :: R ∧ Lead p n v x.2 := fun hb =>
        ⟨(e, c), List.mem_cons_self .., hc, hvc, hb⟩
      rcases ih with hz0 | ⟨x, hx, hl⟩
      · exact .inr (hfirst fun i hi => (hbefore i hi).2 (hz0 i (by omega)))
      · by_cases hlt : x.2 < c
        · exact .inr ⟨x, List.mem_cons_of_mem _ hx, hl.1, fun hh => hl.2.1 ((hbefore _ hlt).1 hh), fun i hi => (hbefore i (by omega)).2 (hl.2.2 i hi)⟩
        · exact .inr (hfirst fun i hi => (hbefore i hi).2 (hl.2.2 i (by omega)))
theorem Ech.snoc : ∀ {R : List ((Nat → Int) × Nat)} {e : Nat → Int} {c : Nat}, Ech p n R → c < n → p ∣ e c - 1 → (∀ i, i < c → p ∣ e i) → (∀ x, x ∈ R → p ∣ e x.2) → Ech p n (R ++ [(e, c)])
  | [], e, c, _, h1, h2, h3, _ => ⟨h1, h2, h3, fun x hx => absurd hx (List.not_mem_nil), trivial⟩
  | (f, d) :: R, e, c, h, h1, h2, h3, h4 => by
    obtain ⟨a1, a2, a3, a4, a5⟩ := h
    refine ⟨a1, a2, a3, fun x hx => ?_, Ech.snoc a5 h1 h2 h3 fun x hx => h4 x (List.mem_cons_of_mem _ hx)⟩
    rcases List.mem_append.1 hx with hx | hx
    · exact a4 x hx
    · rw [List.mem_singleton] at hx
      subst hx
      exact h4 (f, d) (List.mem_cons_self ..)
theorem Ech.nodup (hp : 2 ≤ p) : ∀ {R : List ((Nat → Int) × Nat)}, Ech p n R → (R.map (·.2)).Nodup
  | [], _ => List.nodup_nil
  | (e, c) :: R, h => by
    obtain ⟨a1, a2, a3, a4, a5⟩ := h
    refine List.nodup_cons.2 ⟨fun hm => ?_, Ech.nodup hp a5⟩
    obtain ⟨x, hx, e1⟩ := List.mem_map.1 hm
    have e1' : x.2 = c := e1
    have h1 := a4 x hx
    have h2 := (Ech.lead_mem hp a5 hx).2.1
    rw [e1'] at h2
    exact h2 h1
/-- The columns are those at which sums of multiples begin. -/
theorem Ech.cols (hp : 2 ≤ p) {R : List ((Nat → Int) × Nat)} (h : Ech p n R) (c : Nat) : c ∈ R.map (·.2) ↔ ∃ v, Sp p n (R.map (·.1)) v ∧ Lead p n v c := by
  constructor
  · intro hm
    obtain ⟨x, hx, rfl⟩ := List.mem_map.1 hm
    exact ⟨x.1, Sp.mem (List.mem_map.2 ⟨x, hx, rfl⟩), h.lead_mem hp hx⟩
  · rintro ⟨v, hv, hl⟩
    rcases h.lead hp hv with hz | ⟨x, hx, hl'⟩
    · exact absurd (hz c hl.1) hl.2.1
    · rw [hl.uniq hl']
      exact List.mem_map.2 ⟨x, hx, rfl⟩
theorem nodup_le : ∀ {l m : List Nat}, l.Nodup → (∀ x, x ∈ l → x ∈ m) → l.length ≤ m.length
  | [], _, _, _ => Nat.zero_le _
  | a :: l, m, hd, hs => by
    have ha := hs a (List.mem_cons_self ..)
    obtain ⟨hn, hd'⟩ := List.nodup_cons.1 hd
    have h1 := nodup_le (m := m.erase a) hd' fun x hx => by
      have hne : x ≠ a := fun e => hn (e ▸ hx)
      exact (List.mem_erase_of_ne hne).2 (hs x (List.mem_cons_of_mem _ hx))
    have h2 := List.length_erase_of_mem ha
    have h3 := List.length_pos_of_mem ha
    simp only [List.length_cons]
    omega
theorem Ech.same_cols (hp : 2 ≤ p) {R S : List ((Nat → Int) × Nat)} (hR : Ech p n R) (hS : Ech p n S) (h : ∀ v, Sp p n (R.map (·.1)) v ↔ Sp p n (S.map (·.1)) v) (c : Nat) :
    c ∈ R.map (·.2) ↔ c ∈ S.map (·.2) := by
  rw [hR.cols hp, hS.cols hp]
  exact ⟨fun ⟨v, a, b⟩ => ⟨v, (h v).1 a, b⟩, fun ⟨v, a, b⟩ => ⟨v, (h v).2 a, b⟩⟩
theorem Ech.same_len (hp : 2 ≤ p) {R S : List ((Nat → Int) × Nat)} (hR : Ech p n R) (hS : Ech p n S) (h : ∀ v, Sp p n (R.map (·.1)) v ↔ Sp p n (S.map (·.1)) v) : R.length = S.length := by
  have h1 := nodup_le (hR.nodup hp) fun c hc => (hR.same_cols hp hS h c).1 hc
  have h2 := nodup_le (hS.nodup hp) fun c hc => (hR.same_cols hp hS h c).2 hc
  simp only [List.length_map] at h1 h2
  omega
/-- Sums of multiples that are alike at the columns are alike. -/
theorem Ech.uniq (hp : 2 ≤ p) {R : List ((Nat → Int) × Nat)} (h : Ech p n R) {u v : Nat → Int} (hu : Sp p n (R.map (·.1)) u) (hv : Sp p n (R.map (·.1)) v) (hc : ∀ x, x ∈ R → p ∣ u x.2 - v x.2) :
    ∀ k, k < n → p ∣ u k - v k := by
  rcases h.lead hp (hu.sub hv) with hz | ⟨x, hx, hl⟩
  · exact hz
  · exact absurd (hc x hx) hl.2.1
end
end Go.Proofs.Ytfaegfhbbkicgaa

/-
  Rows taken in one by one, modulo a small prime: the program's way, as plain functions, and what it keeps. Conditions: p is 2, 3, 5 or 7.
-/

namespace Go.Proofs.Ytfaegfhbbkicgaa

def P7 (p : Int) : Prop := p = 2 ∨ p = 3 ∨ p = 5 ∨ p = 7
theorem P7.two {p : Int} (h : P7 p) : 2 ≤ p := by unfold P7 at h; omega
theorem P7.le {p : Int} (h : P7 p) : p ≤ 7 := by unfold P7 at h; omega
/-- All numbers of a row are rests modulo p. -/
def Rg (p : Int) (x : List Int) : Prop := ∀ j, 0 ≤ nth x j ∧ nth x j < p
theorem nth_past {x : List Int} {j : Nat} (h : x.length ≤ j) : nth x j = 0 := by simp [nth, List.getD, h]
/-- A row plus a multiple of another one. -/
def addT (p : Int) (x : List Int) (f : Int) (y : List Int) : List Int := (List.range x.length).map fun j => (nth x j + f * nth y j) % p
theorem nth_rangeMap {n j : Nat} (f : Nat → Int) (h : j < n) : nth ((List.range n).map f) j = f j := by simp [nth, List.getD, h]
theorem addT_len (p : Int) (x : List Int) (f : Int) (y : List Int) : (addT p x f y).length = x.length := by simp [addT]
theorem addT_nth {p : Int} {x : List Int} {f : Int} {y : List Int} {j : Nat} (h : j < x.length) : nth (addT p x f y) j = (nth x j + f * nth y j) % p := nth_rangeMap _ h
theorem addT_rg {p : Int} (hp : 0 < p) (x : List Int) (f : Int) (y : List Int) : Rg p (addT p x f y) := fun j => by
  by_cases h : j < x.length
  · rw [addT_nth h]; exact ⟨Int.emod_nonneg _ (by omega), Int.emod_lt_of_pos _ hp⟩
  · rw [nth_past (by rw [addT_len]; omega)]; exact ⟨Int.le_refl _, hp⟩
/-- The same, as far as a place. -/
def addK (p : Int) (x : List Int) (f : Int) (y : List Int) (k : Nat) : List Int := (List.range x.length).map fun j => if j < k then (nth x j + f * nth y j) % p else nth x j
theorem addK_len (p : Int) (x : List Int) (f : Int) (y : List Int) (k : Nat) : (addK p x f y k).length = x.length := by simp [addK]
theorem addK_nth {p : Int} {x : List Int} {f : Int} {y : List Int} {k j : Nat} (h : j < x.length) : nth (addK p x f y k) j = if j < k then (nth x j + f * nth y j) % p else nth x j := nth_rangeMap _ h
theorem nth_ext {x y : List Int} (hl : x.length = y.length) (h : ∀ j, j < x.length → nth x j = nth y j) : x = y := by
  apply List.ext_getElem hl
  intro j h1 h2
  have := h j h1
  rwa [nth_get h1, nth_get h2] at this
theorem addK_zero (p : Int) (x : List Int) (f : Int) (y : List Int) : addK p x f y 0 = x :=
  nth_ext (addK_len ..) fun j hj => by rw [addK_nth (by rwa [addK_len] at hj), if_neg (by omega)]
theorem addK_all (p : Int) (x : List Int) (f : Int) (y : List Int) : addK p x f y x.length = addT p x f y :=
  nth_ext (by rw [addK_len, addT_len]) fun j hj => by
    rw [addK_len] at hj
    rw [addK_nth hj, if_pos hj, addT_nth hj]
theorem nth_set_at {x : List Int} {k : Nat} (h : k < x.length) (v : Int) (j : Nat) : nth (x.set k v) j = if j = k then v else nth x j := by
  unfold nth
  rw [List.getD_eq_getElem?_getD, List.getD_eq_getElem?_getD, List.getElem?_set]
  by_cases e : k = j
  · subst e; simp [h]
  · rw [if_neg e, if_neg (fun hh => e hh.symm)]
theorem addK_succ {p : Int} {x : List Int} {f : Int} {y : List Int} {k : Nat} (h : k < x.length) : (addK p x f y k).set k ((nth x k + f * nth y k) % p) = addK p x f y (k + 1) :=
  nth_ext (by rw [List.length_set, addK_len, addK_len]) fun j hj => by
    rw [List.length_set, addK_len] at hj
    rw [nth_set_at (by rw [addK_len]; exact h), addK_nth hj, addK_nth hj]
    by_cases e : j = k
    · subst e; rw [if_pos rfl, if_pos (by omega)]
    · rw [if_neg e]
      by_cases hlt : j < k
      · rw [if_pos hlt, if_pos (by omega)]
      · rw [if_neg hlt, if_neg (by omega)]
theorem addK_rg {p : Int} (hp : 0 < p) {x : List Int} (hx : Rg p x) (f : Int) (y : List Int) (k : Nat) : Rg p (addK p x f y k) := fun j => by
  by_cases h : j < x.length
  · rw [addK_nth h]
    split
    · exact ⟨Int.emod_nonneg _ (by omega), Int.emod_lt_of_pos _ hp⟩
    · exact hx j
  · rw [nth_past (by rw [addK_len]; omega)]; exact ⟨Int.le_refl _, hp⟩
theorem emod_dvd (p x : Int) : p ∣ x % p - x := by
  refine ⟨-(x / p), ?_⟩
  have := Int.mul_ediv_add_emod x p
  rw [Int.mul_neg]; omega
theorem addT_dvd {p : Int} {x : List Int} {f : Int} {y : List Int} {j : Nat} (h : j < x.length) : p ∣ nth (addT p x f y) j - (nth x j + f * nth y j) := by
  rw [addT_nth h]; exact emod_dvd _ _
theorem dvd_iff0 {p x : Int} (h : 0 ≤ x ∧ x < p) : p ∣ x ↔ x = 0 := by
  refine ⟨fun hd => ?_, fun e => e ▸ Int.dvd_zero _⟩
  by_cases hx : x = 0
  · exact hx
  · have := Int.le_of_dvd (by omega) hd; omega

/-- A row less multiples of others, one after another. -/
def redE (p : Int) (E : List (List Int × Int)) (x : List Int) : List Int := E.foldl (fun x e => addT p x (p - nth x e.2.toNat) e.1) x
theorem redE_cons (p : Int) (e : List Int × Int) (E : List (List Int × Int)) (x : List Int) : redE p (e :: E) x = redE p E (addT p x (p - nth x e.2.toNat) e.1) := rfl
theorem redE_snoc (p : Int) (e : List Int × Int) (E : List (List Int × Int)) (x : List Int) : redE p (E ++ [e]) x = addT p (redE p E x) (p - nth (redE p E x) e.2.toNat) e.1 := by
  simp [redE, List.foldl_append]
theorem redE_len (p : Int) : ∀ (E : List (List Int × Int)) (x : List Int), (redE p E x).length = x.length
  | [], _ => rfl
  | e :: E, x => by rw [redE_cons, redE_len p E, addT_len]
theorem redE_rg {p : Int} (hp : 0 < p) : ∀ (E : List (List Int × Int)) {x : List Int}, Rg p x → Rg p (redE p E x)
  | [], _, h => h
  | e :: E, x, _ => by rw [redE_cons]; exact redE_rg hp E (addT_rg hp _ _ _)
/-- The rows as functions, with their columns. -/
def vec (E : List (List Int × Int)) : List (Nat → Int) := E.map fun e => nth e.1
def prs (E : List (List Int × Int)) : List ((Nat → Int) × Nat) := E.map fun e => (nth e.1, e.2.toNat)
theorem prs_vec (E : List (List Int × Int)) : (prs E).map (·.1) = vec E := by simp [prs, vec, List.map_map, Function.comp_def]
theorem redE_sp {p : Int} {n : Nat} : ∀ (E : List (List Int × Int)) {x : List Int}, x.length = n → Sp p n (vec E) (fun k => nth (redE p E x) k - nth x k)
  | [], x, _ => fun k _ => by
    show p ∣ nth x k - nth x k
    rw [Int.sub_self]; exact Int.dvd_zero _
  | e :: E, x, hl => by
    have ih := redE_sp (p := p) (n := n) E (x := addT p x (p - nth x e.2.toNat) e.1) (by rw [addT_len]; exact hl)
    refine ⟨p - nth x e.2.toNat, ih.congr fun k hk => ?_⟩
    rw [redE_cons]
    have h1 := addT_dvd (p := p) (x := x) (f := p - nth x e.2.toNat) (y := e.1) (j := k) (by omega)
    show p ∣ nth (redE p E (addT p x (p - nth x e.2.toNat) e.1)) k - nth (addT p x (p - nth x e.2.toNat) e.1) k - (nth (redE p E (addT p x (p - nth x e.2.toNat) e.1)) k - nth x k - (p - nth x e.2.toNat) * nth e.1 k)
    generalize nth (addT p x (p - nth x e.2.toNat) e.1) k = a at *
    generalize (p - nth x e.2.toNat) * nth e.1 k = b at *
    generalize nth (redE p E _) k = c at *
    obtain ⟨q, hq⟩ := h1
    exact ⟨-q, by rw [Int.mul_neg]; omega⟩
theorem redE_keep {p : Int} {c : Nat} : ∀ (E : List (List Int × Int)) {x : List Int}, c < x.length → (∀ e, e ∈ E → p ∣ nth e.1 c) → p ∣ nth (redE p E x) c - nth x c
  | [], x, _, _ => by
    show p ∣ nth x c - nth x c
    rw [Int.sub_self]; exact Int.dvd_zero _
  | e :: E, x, hc, h => by
    have ih := redE_keep (p := p) E (x := addT p x (p - nth x e.2.toNat) e.1) (by rw [addT_len]; exact hc) fun e' he' => h e' (List.mem_cons_of_mem _ he')
    rw [redE_cons]
    have h1 := addT_dvd (p := p) (x := x) (f := p - nth x e.2.toNat) (y := e.1) (j := c) hc
    have h2 : p ∣ (p - nth x e.2.toNat) * nth e.1 c := Int.dvd_mul_of_dvd_right (h e (List.mem_cons_self ..))
    have h3 := Int.dvd_add (Int.dvd_add ih h1) h2
    have e1 : nth (redE p E (addT p x (p - nth x e.2.toNat) e.1)) c - nth (addT p x (p - nth x e.2.toNat) e.1) c + (nth (addT p x (p - nth x e.2.toNat) e.1) c - (nth x c + (p - nth x e.2.toNat) * nth e.1 c)) + (p - nth x e.2.toNat) * nth e.1 c = nth (redE p E (addT p x (p - nth x e.2.toNat) e.1)) c - nth x c := by omega
    rwa [e1] at h3
theorem redE_zero {p : Int} {n : Nat} : ∀ (E : List (List Int × Int)) {x : List Int}, x.length = n → Ech p n (prs E) → ∀ e, e ∈ E → p ∣ nth (redE p E x) e.2.toNat
  | e :: E, x, hl, h, d, hd => by
    obtain ⟨hc, h1, _, hz, hE⟩ := h
    have hl' : (addT p x (p - nth x e.2.toNat) e.1).length = n := by rw [addT_len]; exact hl
    rcases List.mem_cons.1 hd with rfl | hd'
    · rw [redE_cons]
      have hk := redE_keep (p := p) (c := d.2.toNat) E (x := addT p x (p - nth x d.2.toNat) d.1) (by omega) fun y hy => hz (nth y.1, y.2.toNat) (List.mem_map.2 ⟨y, hy, rfl⟩)
      have ha := addT_dvd (p := p) (x := x) (f := p - nth x d.2.toNat) (y := d.1) (j := d.2.toNat) (by omega)
      have h2 : p ∣ (p - nth x d.2.toNat) * (nth d.1 d.2.toNat - 1) := Int.dvd_mul_of_dvd_right h1
      rw [Int.mul_sub, Int.mul_one] at h2
      have h3 := Int.dvd_add (Int.dvd_add hk ha) h2
      have h4 := Int.dvd_add h3 (Int.dvd_refl p)
      have e1 : nth (redE p E (addT p x (p - nth x d.2.toNat) d.1)) d.2.toNat - nth (addT p x (p - nth x d.2.toNat) d.1) d.2.toNat + (nth (addT p x (p - nth x d.2.toNat) d.1) d.2.toNat - (nth x d.2.toNat + (p - nth x d.2.toNat) * nth d.1 d.2.toNat)) + ((p - nth x d.2.toNat) * nth d.1 d.2.toNat - (p - nth x d.2.toNat)) + p = nth (redE p E (addT p x (p - nth x d.2.toNat) d.1)) d.2.toNat := by omega
      rwa [e1] at h4
    · rw [redE_cons]
      exact redE_zero E hl' hE d hd'

/-- The first place with another number than 0. -/
def ldN (x : List Int) : Nat := (x.takeWhile (fun y => decide (y = 0))).length
theorem ldN_le (x : List Int) : ldN x ≤ x.length := (List.takeWhile_sublist _).length_le
theorem ldN_is : ∀ (xs : List Int) (k : Nat), k ≤ xs.length → (∀ j, j < k → nth xs j = 0) → (k = xs.length ∨ nth xs k ≠ 0) → ldN xs = k
  | [], k, hk, _, _ => by
    have : k = 0 := by simpa using hk
    subst this; rfl
  | y :: xs, 0, _, _, h => by
    rcases h with h | h
    · simp at h
    · have hy : y ≠ 0 := h
      simp [ldN, List.takeWhile, hy]
  | y :: xs, k + 1, hk, hall, h => by
    have hy : y = 0 := hall 0 (by omega)
    have ih := ldN_is xs k (by simpa using hk) (fun j hj => hall (j + 1) (by omega)) (by
      rcases h with h | h
      · left; simpa using h
      · right; exact h)
    have e : ldN (y :: xs) = ldN xs + 1 := by simp [ldN, List.takeWhile, hy]
    rw [e, ih]
theorem ldN_before : ∀ (xs : List Int) (j : Nat), j < ldN xs → nth xs j = 0
  | [], j, h => by simp [ldN] at h
  | y :: xs, j, h => by
    by_cases hy : y = 0
    · have e : ldN (y :: xs) = ldN xs + 1 := by simp [ldN, List.takeWhile, hy]
      match j with
      | 0 => exact hy
      | j + 1 => exact ldN_before xs j (by omega)
    · have e : ldN (y :: xs) = 0 := by simp [ldN, List.takeWhile, hy]
      omega
theorem ldN_at : ∀ (xs : List Int), ldN xs < xs.length → nth xs (ldN xs) ≠ 0
  | [], h => by simp at h
  | y :: xs, h => by
    by_cases hy : y = 0
    · have e : ldN (y :: xs) = ldN xs + 1 := by simp [ldN, List.takeWhile, hy]
      rw [e] at h ⊢
      exact ldN_at xs (by simpa using h)
    · have e : ldN (y :: xs) = 0 := by simp [ldN, List.takeWhile, hy]
      rw [e]; exact hy
/-- The number whose product with x has the rest 1. -/
def inv7 (p x : Int) : Int := ((((List.range 7).find? fun (y : Nat) => decide (x * (y : Int) % p = 1)).getD 0 : Nat) : Int)
theorem inv7_is {p x y : Int} (hp : P7 p) (hx : 0 < x ∧ x < p) (hy : 0 < y ∧ y < p) (h : x * y % p = 1) : y = inv7 p x := by
  have hx7 : x = 1 ∨ x = 2 ∨ x = 3 ∨ x = 4 ∨ x = 5 ∨ x = 6 := by have := hp.le; omega
  have hy7 : y = 1 ∨ y = 2 ∨ y = 3 ∨ y = 4 ∨ y = 5 ∨ y = 6 := by have := hp.le; omega
  rcases hp with rfl | rfl | rfl | rfl <;> rcases hx7 with rfl | rfl | rfl | rfl | rfl | rfl <;> first | (exfalso; omega) | (rcases hy7 with rfl | rfl | rfl | rfl | rfl | rfl <;> first | (exfalso; omega) | (revert h; decide))
theorem inv7_ok {p x : Int} (hp : P7 p) (hx : 0 < x ∧ x < p) : 0 < inv7 p x ∧ inv7 p x < p ∧ x * inv7 p x % p = 1 := by
  have hx7 : x = 1 ∨ x = 2 ∨ x = 3 ∨ x = 4 ∨ x = 5 ∨ x = 6 := by have := hp.le; omega
  rcases hp with rfl | rfl | rfl | rfl <;> rcases hx7 with rfl | rfl | rfl | rfl | rfl | rfl <;> first | (exfalso; omega) | decide
/-- The row that is kept. -/
def nrm (p : Int) (r : List Int) : List Int := addT p r (inv7 p (nth r (ldN r)) - 1) r
theorem nrm_len (p : Int) (r : List Int) : (nrm p r).length = r.length := addT_len ..
theorem nrm_dvd {p : Int} {r : List Int} {j : Nat} (h : j < r.length) : p ∣ nth (nrm p r) j - inv7 p (nth r (ldN r)) * nth r j := by
  have h1 := addT_dvd (p := p) (x := r) (f := inv7 p (nth r (ldN r)) - 1) (y := r) h
  rw [Int.sub_mul, Int.one_mul] at h1
  have e : nth r j + (inv7 p (nth r (ldN r)) * nth r j - nth r j) = inv7 p (nth r (ldN r)) * nth r j := by omega
  rwa [e] at h1
def addR (p : Int) (E : List (List Int × Int)) (x : List Int) : List (List Int × Int) :=
  if ldN (redE p E x) = x.length then E else E ++ [(nrm p (redE p E x), (ldN (redE p E x) : Int))]
def echel (p : Int) (rows : List (List Int)) : List (List Int × Int) := rows.foldl (addR p) []
/-- What the rows that are kept obey. -/
def EOk (p : Int) (n : Nat) (E : List (List Int × Int)) : Prop := (∀ e, e ∈ E → e.1.length = n ∧ Rg p e.1 ∧ 0 ≤ e.2 ∧ e.2 < n) ∧ Ech p n (prs E)
theorem EOk.nil (p : Int) (n : Nat) : EOk p n [] := ⟨fun _ h => absurd h (List.not_mem_nil), trivial⟩
theorem addR_ok {p : Int} {n : Nat} (hp : P7 p) {E : List (List Int × Int)} {x : List Int} (h : EOk p n E) (hl : x.length = n) (hx : Rg p x) :
    EOk p n (addR p E x) ∧ ∀ v, Sp p n (vec (addR p E x)) v ↔ Sp p n (vec E ++ [nth x]) v := by
  have hp2 := hp.two
  have hrl := redE_len p E x
  have hrg := redE_rg (p := p) (by omega) E hx
  have hsp := redE_sp (p := p) E hl
  have hz := redE_zero (p := p) E hl h.2
  unfold addR
  obtain ⟨r, hr⟩ : ∃ r, r = redE p E x := ⟨_, rfl⟩
  rw [← hr] at hrl hrg hsp hz ⊢
  have hle := ldN_le r
  by_cases hend : ldN r = x.length
  · rw [if_pos hend]
    refine ⟨h, Sp.same (fun e he => Sp.mem (List.mem_append_left _ he)) fun e he => ?_⟩
    rcases List.mem_append.1 he with he | he
    · exact Sp.mem he
    · rw [List.mem_singleton] at he
      subst he
      have h0 : Sp p n (vec E) (nth r) := Sp.zero fun k hk => by rw [ldN_before r k (by omega)]; exact Int.dvd_zero _
      exact (h0.sub hsp).of_eq fun k _ => by
        show nth r k - (nth r k - nth x k) = nth x k
        omega
  · rw [if_neg hend]
    have hlt : ldN r < r.length := by omega
    have hne := ldN_at r hlt
    have hrc := hrg (ldN r)
    have hinv := inv7_ok hp (x := nth r (ldN r)) ⟨by omega, hrc.2⟩
    have hnd := fun {j : Nat} (hj : j < r.length) => nrm_dvd (p := p) hj
    obtain ⟨f, hf⟩ : ∃ f, f = inv7 p (nth r (ldN r)) := ⟨_, rfl⟩
    rw [← hf] at hinv hnd
    obtain ⟨y, hy⟩ : ∃ y, y = nrm p r := ⟨_, rfl⟩
    rw [← hy] at hnd ⊢
    have hyl : y.length = n := by rw [hy, nrm_len]; omega
    have hyr : Rg p y := by rw [hy]; exact addT_rg (by omega) _ _ _
    have h1 : p ∣ nth y (ldN r) - 1 := by
      have a := hnd hlt
      have b := emod_dvd p (nth r (ldN r) * f)
      rw [hinv.2.2] at b
      have c := Int.dvd_sub a b
      have e : nth y (ldN r) - f * nth r (ldN r) - (1 - nth r (ldN r) * f) = nth y (ldN r) - 1 := by rw [Int.mul_comm f]; omega
      rwa [e] at c
    have h0 : ∀ i, i < n → p ∣ nth r i → p ∣ nth y i := fun i hi hd => by
      have a := hnd (j := i) (by omega)
      have b := Int.dvd_mul_of_dvd_right (b := f) hd
      have c := Int.dvd_add a b
      have e : nth y i - f * nth r i + f * nth r i = nth y i := by omega
      rwa [e] at c
    refine ⟨⟨fun e he => ?_, ?_⟩, ?_⟩
    · rcases List.mem_append.1 he with he | he
      · exact h.1 e he
      · rw [List.mem_singleton] at he
        subst he
        exact ⟨hyl, hyr, by omega, by show (ldN r : Int) < n; omega⟩
    · have e : prs (E ++ [(y, (ldN r : Int))]) = prs E ++ [(nth y, ldN r)] := by simp [prs]
      rw [e]
      refine h.2.snoc (by omega) h1 (fun i hi => h0 i (by omega) (by rw [ldN_before r i hi]; exact Int.dvd_zero _)) fun q hq => ?_
      obtain ⟨e', he', rfl⟩ := List.mem_map.1 hq
      exact h0 _ (by have := (h.1 e' he').2.2; show e'.2.toNat < n; omega) (hz e' he')
    · have e : vec (E ++ [(y, (ldN r : Int))]) = vec E ++ [nth y] := by simp [vec]
      rw [e]
      have hr' : Sp p n (vec E ++ [nth x]) (nth r) := by
        have a := (Sp.app_left (R' := [nth x]) hsp).add (Sp.mem (List.mem_append_right (vec E) (List.mem_singleton.2 rfl)))
        exact a.of_eq fun k _ => by
          show nth r k - nth x k + nth x k = nth r k
          omega
      refine Sp.same (fun q hq => ?_) fun q hq => ?_
      · rcases List.mem_append.1 hq with hq | hq
        · exact Sp.mem (List.mem_append_left _ hq)
        · rw [List.mem_singleton] at hq
          subst hq
          refine (hr'.mul f).congr fun k hk => ?_
          have a := hnd (j := k) (by omega)
          have e2 : f * nth r k - nth y k = -(nth y k - f * nth r k) := by omega
          rw [e2]; exact Int.dvd_neg.2 a
      · rcases List.mem_append.1 hq with hq | hq
        · exact Sp.mem (List.mem_append_left _ hq)
        · rw [List.mem_singleton] at hq
          subst hq
          have hy' : Sp p n (vec E ++ [nth y]) (nth y) := Sp.mem (List.mem_append_right _ (List.mem_singleton.2 rfl))
          have hrr : Sp p n (vec E ++ [nth y]) (nth r) := by
            refine (hy'.mul (nth r (ldN r))).congr fun k hk => ?_
            have a := Int.dvd_mul_of_dvd_right (b := nth r (ldN r)) (hnd (j := k) (by omega))
            have b := Int.dvd_mul_of_dvd_left (c := nth r k) (emod_dvd p (nth r (ldN r) * f))
            rw [hinv.2.2] at b
            rw [Int.mul_sub] at a
            rw [Int.sub_mul, Int.one_mul, Int.mul_assoc] at b
            have c := Int.dvd_sub a b
            generalize nth r (ldN r) * nth y k = s at *
            generalize nth r (ldN r) * (f * nth r k) = t at *
            have e3 : s - t - (nth r k - t) = s - nth r k := by omega
            rwa [e3] at c
          exact (hrr.sub (Sp.app_left hsp)).of_eq fun k _ => by
            show nth r k - (nth r k - nth x k) = nth x k
            omega
theorem echel_from {p : Int} {n : Nat} (hp : P7 p) : ∀ (rows : List (List Int)) (E : List (List Int × Int)), (∀ x, x ∈ rows → x.length = n ∧ Rg p x) → EOk p n E →
    EOk p n (rows.foldl (addR p) E) ∧ ∀ v, Sp p n (vec (rows.foldl (addR p) E)) v ↔ Sp p n (vec E ++ rows.map nth) v
  | [], E, _, h => ⟨h, fun v => by simp⟩
  | x :: rows, E, hr, h => by
    obtain ⟨hl, hx⟩ := hr x (List.mem_cons_self ..)
    obtain ⟨h1, h2⟩ := addR_ok hp h hl hx
    obtain ⟨h3, h4⟩ := echel_from hp rows (addR p E x) (fun y hy => hr y (List.mem_cons_of_mem _ hy)) h1
    refine ⟨h3, fun v => ?_⟩
    rw [List.foldl_cons, h4 v]
    have e : vec E ++ (x :: rows).map nth = (vec E ++ [nth x]) ++ rows.map nth := by simp
    rw [e]
    refine Sp.same (fun q hq => ?_) (fun q hq => ?_) v
    · rcases List.mem_append.1 hq with hq | hq
      · exact Sp.app_left ((h2 q).1 (Sp.mem hq))
      · exact Sp.mem (List.mem_append_right _ hq)
    · rcases List.mem_append.1 hq with hq | hq
      · exact Sp.app_left ((h2 q).2 (Sp.mem hq))
      · exact Sp.mem (List.mem_append_right _ hq)
theorem echel_ok {p : Int} {n : Nat} (hp : P7 p) {rows : List (List Int)} (hr : ∀ x, x ∈ rows → x.length = n ∧ Rg p x) :
    EOk p n (echel p rows) ∧ ∀ v, Sp p n (vec (echel p rows)) v ↔ Sp p n (rows.map nth) v := by
  have h := echel_from hp rows [] hr (EOk.nil p n)
  exact ⟨h.1, fun v => h.2 v⟩
end Go.Proofs.Ytfaegfhbbkicgaa

/-
  Reduction of a matrix column by column, modulo a small prime: the document's way, on functions of row and column, and what it keeps. Conditions: p is 2, 3, 5 or 7.
-/

namespace Go.Proofs.Ytfaegfhbbkicgaa

def rowsM (R : Nat) (M : Nat → Nat → Int) : List (Nat → Int) := (List.range R).map M
theorem rowsM_mem {R : Nat} {M : Nat → Nat → Int} {e : Nat → Int} : e ∈ rowsM R M ↔ ∃ i, i < R ∧ e = M i := by
  unfold rowsM
  rw [List.mem_map]
  constructor
  · rintro ⟨i, hi, rfl⟩; exact ⟨i, List.mem_range.1 hi, rfl⟩
  · rintro ⟨i, hi, rfl⟩; exact ⟨i, List.mem_range.2 hi, rfl⟩
theorem rowsM_sp {p : Int} {n R : Nat} {M : Nat → Nat → Int} {i : Nat} (h : i < R) : Sp p n (rowsM R M) (M i) := Sp.mem (rowsM_mem.2 ⟨i, h, rfl⟩)
/-- The same sums of multiples. -/
def SameSp (p : Int) (n R : Nat) (M N : Nat → Nat → Int) : Prop := ∀ v, Sp p n (rowsM R M) v ↔ Sp p n (rowsM R N) v
theorem SameSp.of {p : Int} {n R : Nat} {M N : Nat → Nat → Int} (h1 : ∀ i, i < R → Sp p n (rowsM R N) (M i)) (h2 : ∀ i, i < R → Sp p n (rowsM R M) (N i)) : SameSp p n R M N :=
  Sp.same (fun e he => by obtain ⟨i, hi, rfl⟩ := rowsM_mem.1 he; exact h1 i hi) (fun e he => by obtain ⟨i, hi, rfl⟩ := rowsM_mem.1 he; exact h2 i hi)
theorem SameSp.trans {p : Int} {n R : Nat} {M N K : Nat → Nat → Int} (h : SameSp p n R M N) (h' : SameSp p n R N K) : SameSp p n R M K := fun v => (h v).trans (h' v)
theorem SameSp.refl {p : Int} {n R : Nat} {M : Nat → Nat → Int} : SameSp p n R M M := fun _ => Iff.rfl
theorem SameSp.symm {p : Int} {n R : Nat} {M N : Nat → Nat → Int} (h : SameSp p n R M N) : SameSp p n R N M := fun v => (h v).symm

def swM (M : Nat → Nat → Int) (a b : Nat) : Nat → Nat → Int := fun i c => if i = a then M b c else if i = b then M a c else M i c
def scM (p : Int) (M : Nat → Nat → Int) (r : Nat) (f : Int) : Nat → Nat → Int := fun i c => if i = r then M r c * f % p else M i c
def clM (p : Int) (M : Nat → Nat → Int) (r j : Nat) : Nat → Nat → Int := fun i c => if i = r then M r c else (M i c + (p - M i j) * M r c) % p
theorem swM_sp {p : Int} {n R : Nat} {M : Nat → Nat → Int} {a b : Nat} (ha : a < R) (hb : b < R) : SameSp p n R M (swM M a b) := by
  have ea : swM M a b a = M b := by funext c; simp [swM]
  have eb : swM M a b b = M a := by
    funext c
    by_cases e : b = a
    · subst e; simp [swM]
    · simp [swM, e]
  have eo : ∀ i, i ≠ a → i ≠ b → swM M a b i = M i := fun i h1 h2 => by funext c; simp [swM, h1, h2]
  refine SameSp.of (fun i hi => ?_) (fun i hi => ?_)
  · by_cases h1 : i = a
    · subst h1; rw [← eb]; exact rowsM_sp hb
    · by_cases h2 : i = b
      · subst h2; rw [← ea]; exact rowsM_sp ha
      · rw [← eo i h1 h2]; exact rowsM_sp hi
  · by_cases h1 : i = a
    · subst h1; rw [ea]; exact rowsM_sp hb
    · by_cases h2 : i = b
      · subst h2; rw [eb]; exact rowsM_sp ha
      · rw [eo i h1 h2]; exact rowsM_sp hi
theorem scM_sp {p : Int} {n R : Nat} {M : Nat → Nat → Int} {r : Nat} {f g : Int} (hr : r < R) (hfg : p ∣ g * f - 1) : SameSp p n R M (scM p M r f) := by
  have er : ∀ c, scM p M r f r c = M r c * f % p := fun c => by simp [scM]
  have eo : ∀ i, i ≠ r → scM p M r f i = M i := fun i h => by funext c; simp [scM, h]
  refine SameSp.of (fun i hi => ?_) (fun i hi => ?_)
  · by_cases h : i = r
    · subst h
      refine ((rowsM_sp (M := scM p M i f) hr).mul g).congr fun k _ => ?_
      rw [er k]
      have a := Int.dvd_mul_of_dvd_right (b := g) (emod_dvd p (M i k * f))
      have b := Int.dvd_mul_of_dvd_left (c := M i k) hfg
      rw [Int.mul_sub] at a
      rw [Int.sub_mul, Int.one_mul] at b
      have c := Int.dvd_add a b
      have e : g * (M i k * f) = g * f * M i k := by rw [Int.mul_comm (M i k), Int.mul_assoc]
      rw [e] at c
      generalize g * (M i k * f % p) = s at *
      generalize g * f * M i k = t at *
      have e2 : s - t + (t - M i k) = s - M i k := by omega
      rwa [e2] at c
    · rw [← eo i h]; exact rowsM_sp hi
  · by_cases h : i = r
    · subst h
      refine ((rowsM_sp (M := M) hr).mul f).congr fun k _ => ?_
      rw [er k]
      have a := emod_dvd p (M i k * f)
      rw [Int.mul_comm f]
      generalize M i k * f % p = s at *
      have e2 : M i k * f - s = -(s - M i k * f) := by omega
      rw [e2]; exact Int.dvd_neg.2 a
    · rw [eo i h]; exact rowsM_sp hi
theorem clM_sp {p : Int} {n R : Nat} {M : Nat → Nat → Int} {r j : Nat} (hr : r < R) : SameSp p n R M (clM p M r j) := by
  have er : clM p M r j r = M r := by funext c; simp [clM]
  have eo : ∀ i c, i ≠ r → clM p M r j i c = (M i c + (p - M i j) * M r c) % p := fun i c h => by simp [clM, h]
  have hrr : Sp p n (rowsM R (clM p M r j)) (M r) := by rw [← er]; exact rowsM_sp hr
  refine SameSp.of (fun i hi => ?_) (fun i hi => ?_)
  · by_cases h : i = r
    · subst h; exact hrr
    · refine ((rowsM_sp (M := clM p M r j) hi).sub (hrr.mul (p - M i j))).congr fun k _ => ?_
      rw [eo i k h]
      have a := emod_dvd p (M i k + (p - M i j) * M r k)
      generalize (p - M i j) * M r k = s at *
      generalize (M i k + s) % p = t at *
      have e2 : t - s - M i k = t - (M i k + s) := by omega
      rwa [e2]
  · by_cases h : i = r
    · subst h; rw [er]; exact rowsM_sp hr
    · refine ((rowsM_sp (M := M) hi).add ((rowsM_sp (M := M) hr).mul (p - M i j))).congr fun k _ => ?_
      rw [eo i k h]
      have a := emod_dvd p (M i k + (p - M i j) * M r k)
      generalize (p - M i j) * M r k = s at *
      generalize (M i k + s) % p = t at *
      have e2 : M i k + s - t = -(t - (M i k + s)) := by omega
      rw [e2]; exact Int.dvd_neg.2 a

/-- What holds before column j, with k rows done. -/
structure RedI (p : Int) (n R : Nat) (M0 M : Nat → Nat → Int) (ps : List Int) (j : Nat) : Prop where
  le : ps.length ≤ R
  rg : ∀ i c, i < R → c < n → 0 ≤ M i c ∧ M i c < p
  col : ∀ i, i < ps.length → 0 ≤ nth ps i ∧ nth ps i < j
  asc : ∀ i i', i < i' → i' < ps.length → nth ps i < nth ps i'
  one : ∀ i, i < ps.length → M i (nth ps i).toNat = 1
  bef : ∀ (i c : Nat), i < ps.length → (c : Int) < nth ps i → M i c = 0
  oth : ∀ i i', i < ps.length → i' < R → i' ≠ i → M i' (nth ps i).toNat = 0
  rest : ∀ i c, ps.length ≤ i → i < R → c < j → M i c = 0
  sp : SameSp p n R M0 M
theorem RedI.start {p : Int} {n R : Nat} {M : Nat → Nat → Int} (h : ∀ i c, i < R → c < n → 0 ≤ M i c ∧ M i c < p) : RedI p n R M M [] 0 :=
  ⟨Nat.zero_le _, h, fun _ hi => absurd hi (Nat.not_lt_zero _), fun _ _ _ hi => absurd hi (Nat.not_lt_zero _), fun _ hi => absurd hi (Nat.not_lt_zero _), fun _ _ hi => absurd hi (Nat.not_lt_zero _), fun _ _ hi => absurd hi (Nat.not_lt_zero _), fun _ _ _ _ hc => absurd hc (Nat.not_lt_zero _), SameSp.refl⟩
theorem RedI.skip {p : Int} {n R : Nat} {M0 M : Nat → Nat → Int} {ps : List Int} {j : Nat} (h : RedI p n R M0 M ps j) (hz : ∀ i, ps.length ≤ i → i < R → M i j = 0) : RedI p n R M0 M ps (j + 1) :=
  ⟨h.le, h.rg, fun i hi => by have := h.col i hi; omega, h.asc, h.one, h.bef, h.oth, fun i c h1 h2 h3 => by
    by_cases e : c = j
    · subst e; exact hz i h1 h2
    · exact h.rest i c h1 h2 (by omega), h.sp⟩
theorem nth_snocX {ps : List Int} {i : Nat} (h : i < ps.length) (v : Int) : nth (ps ++ [v]) i = nth ps i := by
  rw [nth, nth, List.getD_eq_getElem?_getD, List.getD_eq_getElem?_getD, List.getElem?_append_left h]
theorem nth_snoc_at (ps : List Int) (v : Int) : nth (ps ++ [v]) ps.length = v := by simp [nth, List.getD]
theorem RedI.step {p : Int} {n R : Nat} {M0 M : Nat → Nat → Int} {ps : List Int} {j : Nat} (hp : P7 p) (h : RedI p n R M0 M ps j) (hj : j < n) {a : Nat} (ha1 : ps.length ≤ a) (ha2 : a < R) (hne : M a j ≠ 0) :
    RedI p n R M0 (clM p (scM p (swM M a ps.length) ps.length (inv7 p (M a j))) ps.length j) (ps ++ [(j : Int)]) (j + 1) := by
  have hp2 := hp.two
  have hkR : ps.length < R := by omega
  obtain ⟨k, hk⟩ : ∃ k, k = ps.length := ⟨_, rfl⟩
  have hrga := h.rg a j ha2 hj
  have hinv := inv7_ok hp (x := M a j) ⟨by omega, hrga.2⟩
  obtain ⟨f, hf⟩ : ∃ f, f = inv7 p (M a j) := ⟨_, rfl⟩
  rw [← hf] at hinv ⊢
  rw [← hk] at ha1 hkR ⊢
  -- after the exchange
  obtain ⟨N, hN⟩ : ∃ N, N = swM M a k := ⟨_, rfl⟩
  have hNsp : SameSp p n R M N := by rw [hN]; exact swM_sp ha2 hkR
  have hNk : ∀ c, N k c = M a c := fun c => by
    rw [hN]
    by_cases e : k = a
    · subst e; simp [swM]
    · simp [swM, e]
  have hNlt : ∀ i c, i < k → N i c = M i c := fun i c hi => by
    rw [hN]
    have h1 : i ≠ a := by omega
    have h2 : i ≠ k := by omega
    simp [swM, h1, h2]
  have hNany : ∀ i, i < R → ∃ i', i' < R ∧ (k ≤ i → k ≤ i') ∧ (i < k → i' = i) ∧ (∀ c, N i c = M i' c) := fun i hi => by
    rw [hN]
    by_cases h1 : i = a
    · exact ⟨k, hkR, fun _ => Nat.le_refl _, fun hh => by omega, fun c => by simp [swM, h1]⟩
    · by_cases h2 : i = k
      · exact ⟨a, ha2, fun _ => ha1, fun hh => by omega, fun c => by
          have h3 : k ≠ a := fun e => h1 (h2.trans e)
          simp [swM, h2, h3]⟩
      · exact ⟨i, hi, fun hh => hh, fun _ => rfl, fun c => by simp [swM, h1, h2]⟩
  rw [← hN]
  -- after the scaling
  obtain ⟨P, hP⟩ : ∃ P, P = scM p N k f := ⟨_, rfl⟩
  have hPsp : SameSp p n R N P := by
    rw [hP]
    refine scM_sp (g := M a j) hkR ?_
    have := emod_dvd p (M a j * f)
    rw [hinv.2.2] at this
    have e : M a j * f - 1 = -(1 - M a j * f) := by omega
    rw [e]; exact Int.dvd_neg.2 this
  have hPk : ∀ c, P k c = M a c * f % p := fun c => by rw [hP]; simp [scM, hNk]
  have hPo : ∀ i c, i ≠ k → P i c = N i c := fun i c hi => by rw [hP]; simp [scM, hi]
  rw [← hP]
  have hPkj : P k j = 1 := by rw [hPk]; exact hinv.2.2
  have hPk0 : ∀ c, c < j → P k c = 0 := fun c hc => by
    rw [hPk, h.rest a c (by omega) ha2 hc]; simp
  have hPrg : ∀ i c, i < R → c < n → 0 ≤ P i c ∧ P i c < p := fun i c hi hc => by
    by_cases e : i = k
    · subst e; rw [hPk]; exact ⟨Int.emod_nonneg _ (by omega), Int.emod_lt_of_pos _ (by omega)⟩
    · rw [hPo i c e]
      obtain ⟨i', hi', _, _, he⟩ := hNany i hi
      rw [he c]; exact h.rg i' c hi' hc
  -- after the clearing
  obtain ⟨Q, hQ⟩ : ∃ Q, Q = clM p P k j := ⟨_, rfl⟩
  have hQsp : SameSp p n R P Q := by rw [hQ]; exact clM_sp hkR
  have hQk : ∀ c, Q k c = P k c := fun c => by rw [hQ]; simp [clM]
  have hQo : ∀ i c, i ≠ k → Q i c = (P i c + (p - P i j) * P k c) % p := fun i c hi => by rw [hQ]; simp [clM, hi]
  rw [← hQ]
  have hQrg : ∀ i c, i < R → c < n → 0 ≤ Q i c ∧ Q i c < p := fun i c hi hc => by
    by_cases e : i = k
    · subst e; rw [hQk]; exact hPrg i c hi hc
    · rw [hQo i c e]; exact ⟨Int.emod_nonneg _ (by omega), Int.emod_lt_of_pos _ (by omega)⟩
  have hQbef : ∀ i c, i < R → c < j → i ≠ k → Q i c = P i c := fun i c hi hc e => by
    rw [hQo i c e, hPk0 c hc, Int.mul_zero, Int.add_zero]
    have := hPrg i c hi (by omega)
    exact Int.emod_eq_of_lt this.1 this.2
  have hQj : ∀ i, i < R → i ≠ k → Q i j = 0 := fun i hi e => by
    rw [hQo i j e, hPkj, Int.mul_one]
    have e2 : P i j + (p - P i j) = p := by omega
    rw [e2, Int.emod_self]
  have hlen : (ps ++ [(j : Int)]).length = k + 1 := by simp [hk]
  have hat : nth (ps ++ [(j : Int)]) k = j := by rw [hk]; exact nth_snoc_at ps _
  have hlt : ∀ i, i < k → nth (ps ++ [(j : Int)]) i = nth ps i := fun i hi => nth_snocX (by omega) _
  refine ⟨by omega, hQrg, fun i hi => ?_, fun i i' hi hi' => ?_, fun i hi => ?_, fun i c hi hc => ?_, fun i i' hi hi' hne' => ?_, fun i c hi hiR hc => ?_, ((h.sp.trans hNsp).trans hPsp).trans hQsp⟩
  · rw [hlen] at hi
    by_cases e : i = k
    · subst e; rw [hat]; omega
    · rw [hlt i (by omega)]
      have := h.col i (by omega)
      omega
  · rw [hlen] at hi'
    by_cases e : i' = k
    · subst e
      rw [hat, hlt i hi]
      exact (h.col i (by omega)).2
    · rw [hlt i (by omega), hlt i' (by omega)]
      exact h.asc i i' hi (by omega)
  · rw [hlen] at hi
    by_cases e : i = k
    · subst e
      rw [hat, hQk]
      exact hPkj
    · rw [hlt i (by omega)]
      have hc := h.col i (by omega)
      rw [hQbef i _ (by omega) (by omega) e, hPo i _ e, hNlt i _ (by omega)]
      exact h.one i (by omega)
  · rw [hlen] at hi
    by_cases e : i = k
    · subst e
      rw [hat] at hc
      rw [hQk]
      exact hPk0 c (by omega)
    · rw [hlt i (by omega)] at hc
      have hcj := h.col i (by omega)
      rw [hQbef i _ (by omega) (by omega) e, hPo i _ e, hNlt i _ (by omega)]
      exact h.bef i c (by omega) hc
  · rw [hlen] at hi
    by_cases e : i = k
    · subst e
      rw [hat]
      exact hQj i' hi' hne'
    · rw [hlt i (by omega)]
      have hcj := h.col i (by omega)
      by_cases e' : i' = k
      · subst e'
        rw [hQk]
        exact hPk0 _ (by omega)
      · rw [hQbef i' _ hi' (by omega) e', hPo i' _ e']
        obtain ⟨i2, hi2, h2a, h2b, he2⟩ := hNany i' hi'
        rw [he2]
        refine h.oth i i2 (by omega) hi2 fun ee => ?_
        rcases Nat.lt_or_ge i' k with hh | hh
        · have := h2b hh; omega
        · have := h2a hh; omega
  · rw [hlen] at hi
    by_cases ec : c = j
    · subst ec; exact hQj i hiR (by omega)
    · rw [hQbef i c hiR (by omega) (by omega), hPo i c (by omega)]
      obtain ⟨i2, hi2, h2a, h2b, he2⟩ := hNany i hiR
      rw [he2]
      exact h.rest i2 c (by have := h2a (by omega); omega) hi2 (by omega)
/-- The rows that are done, with their columns. -/
def prM (M : Nat → Nat → Int) (ps : List Int) : List ((Nat → Int) × Nat) := (List.range ps.length).map fun i => (M i, (nth ps i).toNat)
theorem prM_fst (M : Nat → Nat → Int) (ps : List Int) : (prM M ps).map (·.1) = rowsM ps.length M := by simp [prM, rowsM, List.map_map, Function.comp_def]
theorem prM_mem {M : Nat → Nat → Int} {ps : List Int} {x : (Nat → Int) × Nat} : x ∈ prM M ps ↔ ∃ i, i < ps.length ∧ x = (M i, (nth ps i).toNat) := by
  unfold prM
  rw [List.mem_map]
  constructor
  · rintro ⟨i, hi, rfl⟩; exact ⟨i, List.mem_range.1 hi, rfl⟩
  · rintro ⟨i, hi, rfl⟩; exact ⟨i, List.mem_range.2 hi, rfl⟩
theorem RedI.ech {p : Int} {n R : Nat} {M0 M : Nat → Nat → Int} {ps : List Int} {j : Nat} (h : RedI p n R M0 M ps j) (hj : j ≤ n) : Ech p n (prM M ps) := by
  have key : ∀ k, k ≤ ps.length → Ech p n ((List.range k).map fun i => (M i, (nth ps i).toNat)) := by
    intro k
    induction k with
    | zero => intro _; exact trivial
    | succ k ih =>
      intro hk
      rw [List.range_succ, List.map_append]
      have hc := h.col k (by omega)
      refine (ih (by omega)).snoc (by omega) (by rw [h.one k (by omega), Int.sub_self]; exact Int.dvd_zero _) (fun i hi => by rw [h.bef k i (by omega) (by omega)]; exact Int.dvd_zero _) fun x hx => ?_
      obtain ⟨i, hi, rfl⟩ := List.mem_map.1 hx
      have hi := List.mem_range.1 hi
      show p ∣ M k (nth ps i).toNat
      rw [h.oth i k (by omega) (by have := h.le; omega) (by omega)]; exact Int.dvd_zero _
  exact key _ (Nat.le_refl _)
theorem RedI.done {p : Int} {n R : Nat} {M0 M : Nat → Nat → Int} {ps : List Int} {j : Nat} (h : RedI p n R M0 M ps j) (hend : j = n ∨ ps.length = R) (v : Nat → Int) :
    Sp p n ((prM M ps).map (·.1)) v ↔ Sp p n (rowsM R M0) v := by
  rw [prM_fst, h.sp v]
  refine Sp.same (fun e he => ?_) (fun e he => ?_) v
  · obtain ⟨i, hi, rfl⟩ := rowsM_mem.1 he
    exact rowsM_sp (by have := h.le; omega)
  · obtain ⟨i, hi, rfl⟩ := rowsM_mem.1 he
    by_cases hlt : i < ps.length
    · exact rowsM_sp hlt
    · rcases hend with rfl | hR
      · exact Sp.zero fun c hc => by rw [h.rest i c (by omega) hi hc]; exact Int.dvd_zero _
      · omega
end Go.Proofs.Ytfaegfhbbkicgaa

/-
  The helpers of the exact laws by their contracts: copying, comparing, marking, holding a slice of integers. Conditions: the length is at most 2^40.
-/

namespace Go.Proofs.Ytfaegfhbbkicgaa
open Go.RowKit

/-- What a copying loop has made after k rounds. -/
def copied (xs : List Int) (k : Nat) : List Value := (xs.take k).map (Value.int .i64) ++ List.replicate (xs.length - k) (.int .i64 0)
theorem copied_zero (xs : List Int) : copied xs 0 = List.replicate xs.length (.int .i64 0) := by simp [copied]
theorem copied_all (xs : List Int) : copied xs xs.length = xs.map (Value.int .i64) := by simp [copied]
theorem copied_len (xs : List Int) (k : Nat) (h : k ≤ xs.length) : (copied xs k).length = xs.length := by simp [copied]; omega
theorem copied_get (xs : List Int) (k : Nat) (h : k < xs.length) : (copied xs k)[k]? = some (.int .i64 0) := by
  unfold copied
  rw [List.getElem?_append_right (by simp; omega)]
  rw [List.getElem?_replicate]
  simp; omega
theorem copied_succ (xs : List Int) (k : Nat) (h : k < xs.length) : (copied xs k).set k (.int .i64 (nth xs k)) = copied xs (k + 1) := by
  unfold copied
  have hl : (List.map (Value.int .i64) (xs.take k)).length = k := by simp; omega
  rw [List.set_append_right _ _ (by omega), hl]
  have e : xs.length - k = (xs.length - (k + 1)) + 1 := by omega
  rw [e, List.replicate_succ, Nat.sub_self, List.set_cons_zero, take_nth h, List.map_append, List.append_assoc]
  rfl

set_option maxHeartbeats 400000 in
/-- toIntS: a copy of its own. -/
theorem toIntS_any (A : Option Addr) (n c : Nat) (xs : List Int) (w : World) (hs : SI w A n xs) (hn : n ≤ 1099511627776) :
    Calls Try.prog 24 #[.slice A n c] w fun e w' =>
      e = .returned (.slice (some ⟨w.heap.size, 0, none⟩) n n) ∧ w'.ownsRow w.heap.size 3 1 (.slice (some ⟨w.heap.size, 0, none⟩) n n) n (xs.map (Value.int .i64)) ∧ Below w.heap.size w w' := by
  obtain ⟨i0, hi, hz0, hz1, hz2⟩ := info_parts Try.infoInt
  have hl := hs.1
  obtain ⟨B, hB⟩ : ∃ B, B = w.heap.size := ⟨_, rfl⟩
  have HB : Hid (B = w.heap.size) := hB
  have hBle : B ≤ w.heap.size := by omega
  go_enter Try.func24, Try.ntmps24
  go_wp2_with (at_make; refine wpList_make_full _ rfl (.tmp 6) (.tmp 6) 22 rfl w.heap.size 3 i0 (.int .i64 0) 1 Try.underlying22 hi hz0 hz1 .i64 .i64 (n : Int) (n : Int) n rfl rfl rfl rfl (by rw [hz2]; omega) (by unfold maxLen; omega) (Nat.le_refl _) ?_; intro w1 hown hgrow)
  rw [← hB] at hown ⊢
  go_loopw [4] (fun i wr => ∃ k : Nat, k ≤ n ∧ i = .int .i64 k ∧ wr.ownsRow B 3 1 (.slice (some ⟨B, 0, none⟩) n n) n (copied xs k) ∧ Below B w wr)
    (fun i _ => n - (intOf i).toNat)
  case atStart =>
    refine ⟨0, Nat.zero_le _, rfl, ?_, ?_⟩
    · rw [copied_zero, hl]
      simpa [toList_madeCells_one, Value.cells] using hown
    · exact ((Below.refl _ _).grown hgrow (by omega) (by intro k hk; cases hk))
  case round =>
    obtain ⟨k, hk, rfl, hown, hbel⟩ := hrel
    by_cases hlt : k < n
    · obtain ⟨b, o, rfl, hb, hc⟩ := hs.at_ (by omega)
      have hc1 : wr.cell? ⟨b, o + k, none⟩ = some (.int .i64 (nth xs k)) := (hbel.cell (p := ⟨b, o + k, none⟩) (by show b < B; omega)).trans (hc k hlt)
      have hc2 : wr.cell? ⟨B, k, none⟩ = some (.int .i64 0) := (hown.cellAt k (by omega)).trans (copied_get xs k (by omega))
      have hf2 : wr.frozen? ⟨B, k, none⟩ = false := hown.frozenAt k
      have hst := (hown.stored k (.int .i64 (nth xs k))).1
      rw [copied_succ xs k (by omega)] at hst
      have HS := Lib.hid hst
      have HBel := Lib.hid hbel
      clear hst hown hbel hc hB
      go_wp2
      go_roundw
      case rel => exact ⟨k + 1, by omega, by go_num, HS.out, HBel.out.setCell (Nat.le_refl _) _⟩
      case measure => simp [intOf]; omega
    · have hkn : k = n := by omega
      subst hkn
      go_wp2
      go_ret
      obtain rfl := HB.out
      refine ⟨rfl, ?_, ?_⟩
      · rw [← hl, copied_all] at hown; rw [← hl]; exact hown
      · exact hbel
/-- Equality of two lists as a Bool (not unfolded by the walk). -/
def eqL (xs ys : List Int) : Bool := decide (xs = ys)
theorem eqL_self (xs : List Int) : eqL xs xs = true := by simp [eqL]
theorem eqL_len {xs ys : List Int} (h : xs.length ≠ ys.length) : eqL xs ys = false := by
  simp only [eqL, decide_eq_false_iff_not]; intro e; exact h (by rw [e])
theorem eqL_all {xs ys : List Int} (hl : xs.length = ys.length) (h : ∀ j, j < xs.length → nth xs j = nth ys j) : eqL xs ys = true := by
  simp only [eqL, decide_eq_true_eq]
  apply List.ext_getElem hl
  intro j h1 h2
  have := h j h1
  rwa [nth_get h1, nth_get h2] at this
theorem eqL_ne {xs ys : List Int} {k : Nat} (h : nth xs k ≠ nth ys k) : eqL xs ys = false := by
  simp only [eqL, decide_eq_false_iff_not]; intro e; exact h (by rw [e])

set_option maxHeartbeats 400000 in
/-- eqIntS: are the two lists one. -/
theorem eqIntS_any (A A' : Option Addr) (n c n' c' : Nat) (xs ys : List Int) (w : World) (hs : SI w A n xs) (hs' : SI w A' n' ys) (hn : n ≤ 1099511627776) (hn' : n' ≤ 1099511627776) :
    Calls Try.prog 18 #[.slice A n c, .slice A' n' c'] w fun e w' => e = .returned (.bool (eqL xs ys)) ∧ Drawn w w' := by
  have hl := hs.1
  have hl' := hs'.1
  by_cases hne : n = n'
  · subst hne
    go_enter Try.func18, Try.ntmps18
    go_wp2
    go_loopw [5] (fun i wr => ∃ k : Nat, k ≤ n ∧ i = .int .i64 k ∧ Drawn w wr ∧ ∀ j, j < k → nth xs j = nth ys j)
      (fun i _ => n - (intOf i).toNat)
    case atStart => exact ⟨0, Nat.zero_le _, rfl, Drawn.refl _, fun j hj => absurd hj (by omega)⟩
    case round =>
      obtain ⟨k, hk, rfl, hD, hall⟩ := hrel
      have HA := Lib.hid hall
      have hs := hD.si hs
      have hs' := hD.si hs'
      have HD := Lib.hid hD
      clear hall hD
      by_cases hlt : k < n
      · obtain ⟨b, o, rfl, hb, hc⟩ := hs.at_ (by omega)
        obtain ⟨b', o', rfl, hb', hc'⟩ := hs'.at_ (by omega)
        have hc1 := hc k hlt
        have hc1' := hc' k hlt
        clear hc hc' hs hs' hl hl'
        by_cases heq : nth xs k = nth ys k
        · have HE := Lib.hid heq
          rw [← heq] at hc1'
          clear heq
          obtain ⟨x, hx⟩ : ∃ x, x = nth xs k := ⟨_, rfl⟩
          rw [← hx] at hc1 hc1'
          clear hx
          have hlI : (k : Int) < (n : Int) := by omega
          go_wp2_with fail
          go_quiet (fail)
          go_wp2
          go_roundw
          case rel => exact ⟨k + 1, by omega, by go_num, HD.out.drewN _, fun j hj => by
            rcases Nat.lt_or_ge j k with h | h
            · exact HA.out j h
            · obtain rfl : j = k := by omega
              exact HE.out⟩
          case measure => simp [intOf]; omega
        · have HE := Lib.hid heq
          obtain ⟨x, hx⟩ : ∃ x, x = nth xs k := ⟨_, rfl⟩
          obtain ⟨y, hy⟩ : ∃ y, y = nth ys k := ⟨_, rfl⟩
          rw [← hx] at hc1 heq
          rw [← hy] at hc1' heq
          clear hx hy
          have hlI : (k : Int) < (n : Int) := by omega
          have hb : (x != y) = true := by simpa using heq
          clear heq
          go_wp2_with fail
          go_quiet (fail)
          go_wp2
          go_ret
          exact ⟨ret_bool (eqL_ne HE.out).symm, HD.out.drewN _⟩
      · have hkn : k = n := by omega
        subst hkn
        go_wp2
        go_ret
        exact ⟨ret_bool (eqL_all (by omega) (by rw [hl]; exact HA.out)).symm, HD.out⟩
  · have hne' : ¬ (n : Int) = (n' : Int) := by omega
    go_enter Try.func18, Try.ntmps18
    go_wp2
    go_ret
    exact ⟨ret_bool (eqL_len (by omega)).symm, Drawn.refl _⟩

/-- The numbers j, j+1, .. that marking writes: k of them, over the first k places. -/
def marked (xs : List Int) (q : Int) (k : Nat) : List Value := (List.range k).map (fun (j : Nat) => Value.int .i64 (q + j)) ++ (xs.drop k).map (Value.int .i64)
def marks (n : Nat) (q : Int) : List Int := (List.range n).map (fun (j : Nat) => q + j)
theorem marked_zero (xs : List Int) (q : Int) : marked xs q 0 = xs.map (Value.int .i64) := by simp [marked]
theorem marked_all (xs : List Int) (q : Int) : marked xs q xs.length = (marks xs.length q).map (Value.int .i64) := by simp [marked, marks]
theorem marked_get (xs : List Int) (q : Int) (k : Nat) (h : k < xs.length) : (marked xs q k)[k]? = some (.int .i64 (nth xs k)) := by
  unfold marked
  rw [List.getElem?_append_right (by simp)]
  simp [nth_get h, h]
theorem marked_succ (xs : List Int) (q : Int) (k : Nat) (h : k < xs.length) : (marked xs q k).set k (.int .i64 (q + k)) = marked xs q (k + 1) := by
  unfold marked
  rw [List.set_append_right _ _ (by simp)]
  rw [List.drop_eq_getElem_cons h, List.range_succ]
  simp only [List.length_map, List.length_range, Nat.sub_self, List.map_cons, List.set_cons_zero, List.map_append, List.append_assoc, List.map_nil]
  rfl
theorem marks_len (n : Nat) (q : Int) : (marks n q).length = n := by simp [marks]
theorem marks_nth (n : Nat) (q : Int) (k : Nat) (h : k < n) : nth (marks n q) k = q + k := by simp [nth, marks, List.getD, h]

set_option maxHeartbeats 400000 in
/-- markIntS on a slice of the call's own: it then holds q, q+1, .. -/
theorem markIntS_own (g n c : Nat) (xs : List Int) (q : Int) (base : Nat) (w : World) (hs : w.ownsRow base 3 1 (.slice (some ⟨g, 0, none⟩) n c) n (xs.map (Value.int .i64)))
    (hn : n ≤ 1099511627776) (hq : 0 ≤ q) (hq' : q ≤ 1099511627776) :
    Calls Try.prog 21 #[.slice (some ⟨g, 0, none⟩) n c, .int .i64 q] w fun e w' =>
      e = .returned (.int .i64 (q + n)) ∧ w'.ownsRow base 3 1 (.slice (some ⟨g, 0, none⟩) n c) n ((marks n q).map (Value.int .i64)) ∧ w.grownBy w' (some g) := by
  have hl : xs.length = n := by have := hs.1; simpa using this
  go_enter Try.func21, Try.ntmps21
  go_wp2
  go_loopw [1, 5] (fun p i wr => ∃ k : Nat, k ≤ n ∧ i = .int .i64 k ∧ p = .int .i64 (q + k) ∧ wr.ownsRow base 3 1 (.slice (some ⟨g, 0, none⟩) n c) n (marked xs q k) ∧ w.grownBy wr (some g))
    (fun _ i _ => n - (intOf i).toNat)
  case atStart => exact ⟨0, Nat.zero_le _, rfl, by simp, by rw [marked_zero]; exact hs, World.grownBy.refl _ _⟩
  case round =>
    obtain ⟨k, hk, rfl, rfl, hown, hgr⟩ := hrel
    by_cases hlt : k < n
    · have hc2 : wr.cell? ⟨g, k, none⟩ = some (.int .i64 (nth xs k)) := (hown.cellAt k (by omega)).trans (marked_get xs q k (by omega))
      have hf2 : wr.frozen? ⟨g, k, none⟩ = false := hown.frozenAt k
      have hst := hown.stored k (.int .i64 (q + k))
      rw [marked_succ xs q k (by omega)] at hst
      have HS := Lib.hid hst.1
      have HG := Lib.hid (hgr.trans hst.2)
      clear hst hown hgr
      go_wp2
      go_roundw
      case rel => exact ⟨k + 1, by omega, by go_num, by go_num, HS.out, HG.out⟩
      case measure => simp [intOf]; omega
    · have hkn : k = n := by omega
      subst hkn
      go_wp2
      go_ret
      refine ⟨rfl, ?_, hgr⟩
      rw [← hl, marked_all] at hown; rw [← hl]; exact hown

set_option maxHeartbeats 400000 in
/-- heldIntS where the marks are held. -/
theorem heldIntS_yes (A : Option Addr) (n c : Nat) (q : Int) (w : World) (hs : SI w A n (marks n q)) (hn : n ≤ 1099511627776) (hq : 0 ≤ q) (hq' : q ≤ 1099511627776) :
    Calls Try.prog 22 #[.slice A n c, .int .i64 q] w fun e w' => e = .returned (.int .i64 (q + n)) ∧ Drawn w w' := by
  go_enter Try.func22, Try.ntmps22
  go_wp2
  go_loopw [1, 5] (fun p i wr => ∃ k : Nat, k ≤ n ∧ i = .int .i64 k ∧ p = .int .i64 (q + k) ∧ Drawn w wr)
    (fun _ i _ => n - (intOf i).toNat)
  case atStart => exact ⟨0, Nat.zero_le _, rfl, by simp, Drawn.refl _⟩
  case round =>
    obtain ⟨k, hk, rfl, rfl, hD⟩ := hrel
    have hs := hD.si hs
    have HD := Lib.hid hD
    clear hD
    by_cases hlt : k < n
    · obtain ⟨b, o, rfl, hb, hc⟩ := hs.at_ (by omega)
      have hc1 := hc k hlt
      rw [marks_nth n q k hlt] at hc1
      clear hc hs
      go_wp2
      go_roundw
      case rel => exact ⟨k + 1, by omega, by go_num, by go_num, HD.out⟩
      case measure => simp [intOf]; omega
    · have hkn : k = n := by omega
      subst hkn
      go_wp2
      go_ret
      exact ⟨rfl, HD.out⟩
end Go.Proofs.Ytfaegfhbbkicgaa

/-
  Slices of integers that a call owns: words and laws (appending one number, copying a whole slice, marking). No conditions beyond lengths below 2^40.
-/


namespace Go.Proofs.Ytfaegfhbbkicgaa
open Go.RowKit

/-- The slice (A, n, c) holds the integers xs in a block of its own between lo and hi (or is nil). -/
def Own (w : World) (lo hi : Nat) (A : Option Addr) (n c : Nat) (xs : List Int) : Prop :=
  w.ownsRow lo 3 1 (.slice A n c) n (xs.map (Value.int .i64)) ∧ ∀ k, (Value.slice A n c).ownBlock = some k → k < hi

section
variable {w w' : World} {lo hi n c : Nat} {A : Option Addr} {xs : List Int}
theorem Own.len (h : Own w lo hi A n c xs) : xs.length = n := by simpa using h.1.1
theorem Own.si (h : Own w lo hi A n c xs) : SI w A n xs := SI.of_own h.1
theorem Own.cap (h : Own w lo hi A n c xs) : n ≤ c := by
  rcases h.1.2 with ⟨e, h0⟩ | ⟨g, cap, cur, e, _, _, hc, _⟩
  · omega
  · injection e with _ _ e3; omega
theorem Own.nil (w : World) (lo hi : Nat) : Own w lo hi none 0 0 [] := ⟨World.ownsRow_nil _ _ _ _, fun k hk => by simp [Value.ownBlock] at hk⟩
theorem Own.of (h : w.ownsRow lo 3 1 (.slice A n c) n (xs.map (Value.int .i64))) : Own w lo w.heap.size A n c xs := ⟨h, fun k hk => (h.lt k hk).2⟩
theorem Own.lt (h : Own w lo hi A n c xs) : ∀ k, (Value.slice A n c).ownBlock = some k → lo ≤ k ∧ k < hi := fun k hk => ⟨(h.1.lt k hk).1, h.2 k hk⟩
theorem Own.grown {row : Option Nat} (h : Own w lo hi A n c xs) (hg : w.grownBy w' row) (hr : ∀ g, row = some g → g < lo ∨ hi ≤ g) : Own w' lo hi A n c xs := by
  refine ⟨h.1.kept hg ?_, h.2⟩
  cases hb : (Value.slice A n c).ownBlock with
  | none => exact .inl rfl
  | some k =>
    refine .inr fun e => ?_
    have := h.lt k hb
    have := hr k e.symm
    omega
theorem Own.below {B : Nat} (h : Own w lo hi A n c xs) (hb : Below B w w') (hB : hi ≤ B) : Own w' lo hi A n c xs := by
  refine ⟨⟨h.1.1, ?_⟩, h.2⟩
  rcases h.1.2 with hn | ⟨g, cap, cur, e, hl, hg, rest⟩
  · exact .inl hn
  · have hlt := h.2 g (by rw [e]; rfl)
    exact .inr ⟨g, cap, cur, e, hl, (hb.block g (by omega)).trans hg, rest⟩
theorem Own.drawn (h : Own w lo hi A n c xs) (hd : Drawn w w') : Own w' lo hi A n c xs := h.below (hd.below hi) (Nat.le_refl _)
theorem Own.wide {lo' hi' : Nat} (h : Own w lo hi A n c xs) (h1 : lo' ≤ lo) (h2 : hi ≤ hi') : Own w lo' hi' A n c xs := by
  refine ⟨⟨h.1.1, ?_⟩, fun k hk => Nat.lt_of_lt_of_le (h.2 k hk) h2⟩
  rcases h.1.2 with hn | ⟨g, cap, cur, e, hl, rest⟩
  · exact .inl hn
  · exact .inr ⟨g, cap, cur, e, Nat.le_trans h1 hl, rest⟩
theorem Own.cellAt {g k : Nat} (h : Own w lo hi (some ⟨g, 0, none⟩) n c xs) (hk : k < n) : w.cell? ⟨g, k, none⟩ = some (.int .i64 (nth xs k)) := by
  have hl := h.len
  rw [h.1.cellAt k (by omega), List.getElem?_map, nth_get? (by omega)]; rfl
theorem Own.frozenAt {g : Nat} (h : Own w lo hi (some ⟨g, 0, none⟩) n c xs) (k : Nat) : w.frozen? ⟨g, k, none⟩ = false := h.1.frozenAt k
theorem Own.place (h : Own w lo hi A n c xs) (hn : 0 < n) : ∃ g, A = some ⟨g, 0, none⟩ ∧ lo ≤ g ∧ g < hi := by
  obtain ⟨g, cap, e, h1, h2⟩ := h.1.form hn
  have hA : A = some ⟨g, 0, none⟩ := by injection e
  subst hA
  exact ⟨g, rfl, h1, h.2 g rfl⟩
theorem Own.set_ {g k : Nat} (h : Own w lo hi (some ⟨g, 0, none⟩) n c xs) (x : Int) :
    Own (w.setCell ⟨g, k, none⟩ (.int .i64 x)) lo hi (some ⟨g, 0, none⟩) n c (xs.set k x) ∧ w.grownBy (w.setCell ⟨g, k, none⟩ (.int .i64 x)) (some g) := by
  obtain ⟨h1, h2⟩ := h.1.stored k (.int .i64 x)
  refine ⟨⟨?_, h.2⟩, h2⟩
  rw [List.map_set]
  exact h1
end
theorem Own.empty (w : World) : Own (w.alloc (.cells #[] 3)) w.heap.size (w.heap.size + 1) (some ⟨w.heap.size, 0, none⟩) 0 0 [] :=
  ⟨World.ownsRow_lit w #[] 0 (Nat.le_refl _) (Nat.zero_le _) rfl, fun k hk => by simp [Value.ownBlock] at hk; omega⟩
theorem Below.alloc_self (w : World) (o : Obj) : Below w.heap.size w (w.alloc o) := (Below.refl _ _).alloc (Nat.le_refl _) _
theorem _root_.Go.RowKit.Below.drawnN {B : Nat} {a w : World} (h : Below B a w) (n : Nat) : Below B a (w.drewN n) := h.trans ⟨rfl, rfl, rfl, Nat.le_refl _, fun _ _ => rfl⟩
theorem grow_below {B : Nat} {w w' : World} {row : Option Nat} (hg : w.grownBy w' row) (hB : B ≤ w.heap.size) (hr : ∀ k, row = some k → B ≤ k) : Below B w w' := (Below.refl B w).grown hg hB hr

/-- What a call that makes a new slice hands back. -/
def Fresh (w w' : World) (e : Ending) (ys : List Int) : Prop :=
  ∃ A n c, e = .returned (.slice A n c) ∧ Own w' w.heap.size w'.heap.size A n c ys ∧ Below w.heap.size w w'

theorem Own.apart {w w' : World} {lo hi n c lo' hi' n' c' : Nat} {A A' : Option Addr} {xs xs' : List Int} (ho : Own w lo hi A n c xs) (hx : Own w lo' hi' A' n' c' xs')
    (hg : w.grownBy w' (Value.slice A' n' c').ownBlock) (h : hi ≤ lo' ∨ hi' ≤ lo) : Own w' lo hi A n c xs :=
  ho.grown hg fun g e => by have := hx.lt g e; omega
theorem Own.mark_below {w w' : World} {B lo hi n c : Nat} {A : Option Addr} {xs : List Int} (hx : Own w lo hi A n c xs) (hg : w.grownBy w' (Value.slice A n c).ownBlock) (hB : B ≤ w.heap.size) (hl : B ≤ lo) : Below B w w' :=
  grow_below hg hB fun k e => by have := hx.lt k e; omega

theorem toIntS_fr (A : Option Addr) (n c : Nat) (xs : List Int) (w : World) (hs : SI w A n xs) (hn : n ≤ 1099511627776) :
    Calls Try.prog 24 #[.slice A n c] w fun e w' => Fresh w w' e xs :=
  (toIntS_any A n c xs w hs hn).mono fun _ _ ⟨he, ho, hb⟩ => ⟨_, _, _, he, Own.of ho, hb⟩

set_option maxHeartbeats 400000 in
/-- markIntS on any slice of the call's own, nil and empty ones among them. -/
theorem markIntS_any (A : Option Addr) (n c lo hi : Nat) (xs : List Int) (q : Int) (w : World) (hs : Own w lo hi A n c xs) (hn : n ≤ 1099511627776) (hq : 0 ≤ q) (hq' : q ≤ 1099511627776) :
    Calls Try.prog 21 #[.slice A n c, .int .i64 q] w fun e w' => e = .returned (.int .i64 (q + n)) ∧ Own w' lo hi A n c (marks n q) ∧ w.grownBy w' (Value.slice A n c).ownBlock := by
  by_cases h0 : 0 < n
  · obtain ⟨g, rfl, _, _⟩ := hs.place h0
    exact (markIntS_own g n c xs q lo w hs.1 hn hq hq').mono fun e w' ⟨he, ho, hg⟩ => ⟨he, ⟨ho, hs.2⟩, hg⟩
  · have hz : n = 0 := by omega
    subst hz
    have hx : xs = [] := List.eq_nil_of_length_eq_zero hs.len
    subst hx
    have HS := Lib.hid hs
    clear hs
    go_enter Try.func21, Try.ntmps21
    go_wp2
    refine wp_loop_rounds 1 ?_
    rw [rounds_succ]
    go_wp2
    go_ret
    exact ⟨by simp, HS.out, World.grownBy.refl _ _⟩

/-- 'make([]int, n)'. -/
theorem wpList_make_zero {ops : Array Oper} {rest : List Oper} {o : Oper} {a : Act} {w : World} {Q : Exit → Act → World → Prop} (hgd : o.guard = none) (l c : Operand) (ho : o.op = .makeSlice 22 l c)
    (n : Nat) (hl : a.eval l = .int .i64 n) (hc : a.eval c = .int .i64 n) (hn : n ≤ 1099511627776)
    (hK : ∀ w', Own w' w.heap.size w'.heap.size (some ⟨w.heap.size, 0, none⟩) n n (List.replicate n 0) → Below w.heap.size w w' → wpList Try.prog ops Q rest (a.put o.dst (.slice (some ⟨w.heap.size, 0, none⟩) n n)) w') :
    wpList Try.prog ops Q (o :: rest) a w := by
  obtain ⟨i0, hi, hz0, hz1, hz2⟩ := info_parts Try.infoInt
  refine wpList_make_full w hgd l c 22 ho w.heap.size 3 i0 (.int .i64 0) 1 Try.underlying22 hi hz0 hz1 .i64 .i64 n n n hl hc rfl rfl (by rw [hz2]; omega) (by unfold maxLen; omega) (Nat.le_refl _) ?_
  intro w1 ho1 hg1
  have e : (madeCells (Value.int .i64 0).cells (n * 1)).toList = (List.replicate n (0 : Int)).map (Value.int .i64) := by
    rw [show (Value.int .i64 0).cells = #[Value.int .i64 0] from rfl, Nat.mul_one, toList_madeCells_one]; simp
  rw [e] at ho1
  exact hK w1 (Own.of ho1) (grow_below hg1 (Nat.le_refl _) (by intro k hk; cases hk))

/-- 'out = append(out, x)' on a slice of the call's own. -/
theorem wpList_append1 {ops : Array Oper} {rest : List Oper} {o : Oper} {a : Act} {w : World} {Q : Exit → Act → World → Prop} (hgd : o.guard = none) (s x : Operand)
    (ho : o.op = .call { callee := .builtin .append, args := #[s, x], argTypes := #[22, 22] })
    (lo : Nat) (A : Option Addr) (n c : Nat) (xs : List Int) (v : Int) (hs : a.eval s = .slice A n c) (hx : a.eval x = .slice (some ⟨w.heap.size, 0, none⟩) 1 1)
    (hown : Own w lo w.heap.size A n c xs) (hlo : lo ≤ w.heap.size) (hn : n ≤ 1099511627776)
    (hK : ∀ A' c' w', Own w' lo w'.heap.size A' (n + 1) c' (xs ++ [v]) → w.grownBy w' (Value.slice A n c).ownBlock → Below lo w w' → wpList Try.prog ops Q rest (a.put o.dst (.slice A' (n + 1) c')) w') :
    wpList Try.prog ops Q (o :: rest) a (w.alloc (.cells #[.int .i64 v] 3)) := by
  obtain ⟨i0, hi, hz0, hz1, hz2⟩ := info_parts Try.infoInt
  refine wpList_append_own _ hgd s x 22 ho lo 3 i0 (.int .i64 0) 1 8 Try.underlying22 hi hz0 hz1 hz2 rfl (by decide) _ _ _ hs (hown.1.alloc _) ⟨w.heap.size, 0, none⟩ 1 1 [.int .i64 v] hx rfl ?_ ?_ (by unfold maxLen; omega) (by omega) (by simp; omega) ?_
  · intro j u hj
    match j, hj with
    | 0, hj =>
      simp at hj
      subst hj
      rw [add_pt]
      exact (Blk.new w 3 #[.int .i64 v]).cell 0
  · intro u hu
    simp at hu
    subst hu
    rfl
  · intro v' w1 ho1 hg1 _
    have e1 : List.map (Value.int .i64) xs ++ [Value.int .i64 v] = (xs ++ [v]).map (Value.int .i64) := by simp
    rw [e1] at ho1
    obtain ⟨g, cap, rfl, _, _⟩ := ho1.form (by omega)
    have hg2 : w.grownBy w1 (Value.slice A n c).ownBlock := (World.grownBy_alloc w _ _).trans hg1
    exact hK _ _ w1 (Own.of ho1) hg2 (grow_below hg2 hlo (fun k hk => (hown.1.lt k hk).1))

set_option maxRecDepth 100000 in
/-- 'append([]int{}, l...)' and the like: a whole slice appended to an empty one that was just made. -/
theorem wpList_append_all {ops : Array Oper} {rest : List Oper} {o : Oper} {a : Act} {w : World} {Q : Exit → Act → World → Prop} (hgd : o.guard = none) (s x : Operand)
    (ho : o.op = .call { callee := .builtin .append, args := #[s, x], argTypes := #[22, 22] })
    (lo : Nat) (A : Option Addr) (n c : Nat) (xs : List Int) (A2 : Option Addr) (m c2 : Nat) (ys : List Int) (hs : a.eval s = .slice A n c) (hx : a.eval x = .slice A2 m c2)
    (hown : Own w lo w.heap.size A n c xs) (hsi : SI w A2 m ys) (hlo : lo ≤ w.heap.size) (hn : n ≤ 1099511627776) (hm : m ≤ 1099511627776)
    (hK : ∀ A' c' w', Own w' lo w'.heap.size A' (n + m) c' (xs ++ ys) → w.grownBy w' (Value.slice A n c).ownBlock → Below lo w w' → wpList Try.prog ops Q rest (a.put o.dst (.slice A' (n + m) c')) w') :
    wpList Try.prog ops Q (o :: rest) a w := by
  obtain ⟨i0, hi, hz0, hz1, hz2⟩ := info_parts Try.infoInt
  by_cases h0 : 0 < m
  · obtain ⟨b, off, rfl, hb, hc⟩ := hsi.2 h0
    refine wpList_append_own _ hgd s x 22 ho lo 3 i0 (.int .i64 0) 1 8 Try.underlying22 hi hz0 hz1 hz2 rfl (by decide) _ _ _ hs hown.1 ⟨b, off, none⟩ m c2 (ys.map (Value.int .i64)) hx (by simp [hsi.1]) ?_ (ints_oneCell _ _) (by unfold maxLen; omega) (by omega) hlo ?_
    · intro j u hj
      have hjl : j < ys.length := by
        rcases Nat.lt_or_ge j ys.length with h | h
        · exact h
        · rw [List.getElem?_eq_none (by simpa using h)] at hj; cases hj
      rw [List.getElem?_map, nth_get? hjl] at hj
      rw [add_pt, hc j (by have := hsi.1; omega)]
      exact hj
    · intro v' w1 ho1 hg1 _
      rw [← List.map_append] at ho1
      obtain ⟨g, cap, rfl, _, _⟩ := ho1.form (by omega)
      exact hK _ _ w1 (Own.of ho1) hg1 (grow_below hg1 hlo (fun k hk => (hown.1.lt k hk).1))
  · have hm0 : m = 0 := by omega
    subst hm0
    have hy : ys = [] := List.eq_nil_of_length_eq_zero hsi.1
    subst hy
    have hk0 := hK A c w (by simpa using hown) (World.grownBy.refl _ _) (Below.refl _ _)
    refine wpList_plain hgd fun K hK' => ?_
    have hrun : (Builtin.append_ #[22, 22] o.type #[.slice A n c, .slice A2 0 c2]).run Try.prog w = .ok (.slice A n c) w := by
      have hg := hown.1
      have hl0 : ∀ v, (loadCells v 0).run Try.prog w = .ok #[] w := fun v => by simp [loadCells, loadCellsFrom]
      rcases hg.2 with ⟨e, h0⟩ | ⟨g, cap, cur, e, _, hgg, hnc, _⟩
      · injection e with e1 e2 e3
        subst e1; subst e3; subst h0
        cases A2 <;> simp [Builtin.append_, run_underlying Try.underlying22, sizeOf, typeInfo, hi, Builtin.lenOf, Builtin.firstCells, hl0]
      · injection e with e1 e2 e3
        subst e1; subst e3
        cases A2 <;> simp [Builtin.append_, run_underlying Try.underlying22, sizeOf, typeInfo, hi, Builtin.lenOf, Builtin.firstCells, hnc, storeCells, hl0]
    unfold Oper.wp
    simp [execOp, ho, resolve, invoke, builtin, hs, hx, hrun, Result.andThen]
    exact hK' _ _ (by simpa using hk0)
end Go.Proofs.Ytfaegfhbbkicgaa

/-
  What a permutation is: the specification's test by its contract. Conditions: the length is at most 2^40.
-/

namespace Go.Proofs.Ytfaegfhbbkicgaa
open Go.RowKit

/-- Is a number among the first of a list (not unfolded by the walk). -/
def hasB (xs : List Int) (x : Int) : Bool := decide (x ∈ xs)
/-- Is place k of the list one that a permutation may have. -/
def goodAt (xs : List Int) (k : Nat) : Prop := 0 ≤ nth xs k ∧ nth xs k ≤ (xs.length : Int) - 1 ∧ hasB (xs.take k) (nth xs k) = false
instance (xs : List Int) (k : Nat) : Decidable (goodAt xs k) := by unfold goodAt; infer_instance
def isPermP (xs : List Int) : Prop := 1 ≤ xs.length ∧ xs.length ≤ 7 ∧ ∀ k, k < xs.length → goodAt xs k
/-- Is the list a permutation (not unfolded by the walk). -/
def isPermB (xs : List Int) : Bool := decide (1 ≤ xs.length) && decide (xs.length ≤ 7) && (List.range xs.length).all fun k => decide (goodAt xs k)
theorem isPermB_iff (xs : List Int) : isPermB xs = true ↔ isPermP xs := by
  simp [isPermB, isPermP, and_assoc]
theorem isPermB_true {xs : List Int} (h : isPermP xs) : isPermB xs = true := (isPermB_iff xs).2 h
theorem isPermB_false {xs : List Int} (h : ¬ isPermP xs) : isPermB xs = false := by
  cases hb : isPermB xs with
  | false => rfl
  | true => exact absurd ((isPermB_iff xs).1 hb) h
theorem hasB_nil (x : Int) : hasB [] x = false := by simp [hasB]
theorem hasB_hit {xs : List Int} {k : Nat} (hk : k < xs.length) : hasB xs (nth xs k) = true := by
  rw [nth_get hk]; simp [hasB]
theorem hasB_all {xs : List Int} {x : Int} (h : ∀ j, j < xs.length → nth xs j ≠ x) : hasB xs x = false := by
  simp only [hasB, decide_eq_false_iff_not]
  intro hm
  obtain ⟨j, hj, e⟩ := List.mem_iff_getElem.1 hm
  exact h j hj (by rw [nth_get hj]; exact e)

theorem l1In_any (a lo hi : Int) (w : World) :
    Calls Try.prog 82 #[.int .i64 a, .int .i64 lo, .int .i64 hi] w fun e w' => e = .returned (.bool (decide (lo ≤ a) && decide (a ≤ hi))) ∧ w = w' := by
  by_cases h1 : lo ≤ a
  · by_cases h2 : a ≤ hi
    · go_enter Try.func82, Try.ntmps82
      go_wp2
      go_ret
      exact ⟨ret_bool (by simp [h1, h2]), rfl⟩
    · go_enter Try.func82, Try.ntmps82
      go_wp2
      go_ret
      exact ⟨ret_bool (by simp [h2]), rfl⟩
  · have h1' : a < lo := by omega
    go_enter Try.func82, Try.ntmps82
    go_wp2
    go_ret
    exact ⟨ret_bool (by simp; intro; omega), rfl⟩
theorem l1In_yes' {a lo hi : Int} (h : lo ≤ a) (h' : a ≤ hi) (w : World) :
    Calls Try.prog 82 #[.int .i64 a, .int .i64 lo, .int .i64 hi] w fun e w' => e = .returned (.bool true) ∧ w = w' := by
  have := l1In_any a lo hi w
  simpa [h, h'] using this
theorem l1In_no' {a lo hi : Int} (h : a < lo ∨ hi < a) (w : World) :
    Calls Try.prog 82 #[.int .i64 a, .int .i64 lo, .int .i64 hi] w fun e w' => e = .returned (.bool false) ∧ w = w' := by
  have e : (decide (lo ≤ a) && decide (a ≤ hi)) = false := by simp; omega
  have := l1In_any a lo hi w
  rwa [e] at this
theorem l1In_yes {a lo hi : Int} (h : lo ≤ a) (h' : a ≤ hi) (w : World) :
    Calls Try.prog 82 #[.int .i64 a, .int .i64 lo, .int .i64 hi] w fun e w' => e = .returned (.bool true) ∧ Drawn w w' :=
  (l1In_yes' h h' w).mono fun _ _ ⟨he, hw⟩ => ⟨he, hw ▸ Drawn.refl _⟩
theorem l1In_no {a lo hi : Int} (h : a < lo ∨ hi < a) (w : World) :
    Calls Try.prog 82 #[.int .i64 a, .int .i64 lo, .int .i64 hi] w fun e w' => e = .returned (.bool false) ∧ Drawn w w' :=
  (l1In_no' h w).mono fun _ _ ⟨he, hw⟩ => ⟨he, hw ▸ Drawn.refl _⟩

set_option maxHeartbeats 400000 in
theorem l1Has_any (A : Option Addr) (n c : Nat) (xs : List Int) (x : Int) (w : World) (hs : SI w A n xs) (hn : n ≤ 1099511627776) :
    Calls Try.prog 152 #[.slice A n c, .int .i64 x] w fun e w' => e = .returned (.bool (hasB xs x)) ∧ Drawn w w' := by
  have hl := hs.1
  go_enter Try.func152, Try.ntmps152
  go_wp2
  go_loopw [5] (fun i wr => ∃ k : Nat, k ≤ n ∧ i = .int .i64 k ∧ Drawn w wr ∧ ∀ j, j < k → nth xs j ≠ x)
    (fun i _ => n - (intOf i).toNat)
  case atStart => exact ⟨0, Nat.zero_le _, rfl, Drawn.refl _, fun j hj => absurd hj (by omega)⟩
  case round =>
    obtain ⟨k, hk, rfl, hD, hall⟩ := hrel
    have HA := Lib.hid hall
    have hs := hD.si hs
    have HD := Lib.hid hD
    clear hall hD
    by_cases hlt : k < n
    · obtain ⟨b, o, rfl, hb, hc⟩ := hs.at_ (by omega)
      have hc1 := hc k hlt
      have HL := Lib.hid hl
      clear hc hs hl
      by_cases heq : nth xs k = x
      · have HE := Lib.hid heq
        rw [heq] at hc1
        clear heq
        go_wp2
        go_ret
        refine ⟨ret_bool ?_, HD.out⟩
        rw [← HE.out]
        exact (hasB_hit (by have := HL.out; omega)).symm
      · have HE := Lib.hid heq
        obtain ⟨y, hy⟩ : ∃ y, y = nth xs k := ⟨_, rfl⟩
        rw [← hy] at hc1 heq
        clear hy
        have hb : (y == x) = false := by simpa using heq
        clear heq
        go_wp2
        go_roundw
        case rel => exact ⟨k + 1, by omega, by go_num, HD.out, fun j hj => by
          rcases Nat.lt_or_ge j k with h | h
          · exact HA.out j h
          · obtain rfl : j = k := by omega
            exact HE.out⟩
        case measure => simp [intOf]; omega
    · have hkn : k = n := by omega
      subst hkn
      go_wp2
      go_ret
      refine ⟨ret_bool ?_, HD.out⟩
      exact (hasB_all (by rw [hl]; exact HA.out)).symm

set_option maxHeartbeats 800000 in
theorem specIsPerm_any (A : Option Addr) (n c : Nat) (xs : List Int) (w : World) (hs : SI w A n xs) (hnc : n ≤ c) (hn : n ≤ 1099511627776) :
    Calls Try.prog 107 #[.slice A n c] w fun e w' => e = .returned (.bool (isPermB xs)) ∧ Drawn w w' := by
  have hl := hs.1
  by_cases hsz : 1 ≤ n ∧ n ≤ 7
  · obtain ⟨hs1, hs7⟩ := hsz
    go_enter Try.func107, Try.ntmps107
    go_wp2_with (go_at_call 82; refine (l1In_yes (by omega) (by omega) _).mono ?_; rintro e w1 ⟨rfl, hD1⟩)
    go_loopw [3] (fun i wr => ∃ k : Nat, k ≤ n ∧ i = .int .i64 k ∧ Drawn w wr ∧ ∀ j, j < k → goodAt xs j)
      (fun i _ => n - (intOf i).toNat)
    case atStart => exact ⟨0, Nat.zero_le _, rfl, hD1, fun j hj => absurd hj (by omega)⟩
    case round =>
      obtain ⟨k, hk, rfl, hD, hall⟩ := hrel
      have HA := Lib.hid hall
      have HL := Lib.hid hl
      have HD := Lib.hid hD
      have hs := hD.si hs
      clear hall hl hD hD1
      by_cases hlt : k < n
      · obtain ⟨b, o, e1, hb, hc⟩ := hs.at_ (by omega)
        have hst := hs.take (k := k) (by omega)
        subst e1
        have hc1 := hc k hlt
        have HST := Lib.hid hst
        clear hc hs hst
        obtain ⟨x, hx⟩ : ∃ x, x = nth xs k := ⟨_, rfl⟩
        obtain ⟨ys, hy⟩ : ∃ ys, ys = xs.take k := ⟨_, rfl⟩
        rw [← hx] at hc1
        rw [← hy] at HST
        have HX := Lib.hid hx
        have HY := Lib.hid hy
        clear hx hy
        have hlI : (k : Int) < (n : Int) := by omega
        have hwr : IntKind.i64.wrap ((n : Int) - 1) = (n : Int) - 1 := IntWalk.i64_in _ (by omega)
        by_cases hr : 0 ≤ x ∧ x ≤ (n : Int) - 1
        · obtain ⟨hx0, hx1⟩ := hr
          go_wp2_with fail
          go_quiet ((first | (go_at_call 82; go_must (refine Calls.quiet_of (l1In_yes hx0 hx1 _))) | (go_at_call 152; exact Calls.quiet_of (l1Has_any _ _ _ ys _ _ HST.out (by omega)))))
          go_wp2
          · have hh : hasB ys x = true := by assumption
            go_ret
            refine ⟨ret_bool ?_, HD.out.drewN _⟩
            refine (isPermB_false ?_).symm
            intro hp
            obtain ⟨_, _, g3⟩ := (hp.2.2 k (by have := HL.out; omega))
            rw [← HX.out, ← HY.out, hh] at g3
            cases g3
          · have hh' : hasB ys x = false := by assumption
            have HG : goodAt xs k := by
              have e1 := HX.out
              have e2 := HY.out
              have e3 := HL.out
              refine ⟨by omega, by omega, by rw [← e1, ← e2]; exact hh'⟩
            go_roundw
            case rel => exact ⟨k + 1, by omega, by go_num, HD.out.drewN _, fun j hj => by
              rcases Nat.lt_or_ge j k with h | h
              · exact HA.out j h
              · obtain rfl : j = k := by omega
                exact HG⟩
            case measure => simp [intOf]; omega
        · go_wp2_with fail
          go_quiet ((first | (go_at_call 82; exact Calls.quiet_of (l1In_no (by omega) _))))
          go_wp2
          go_ret
          refine ⟨ret_bool ?_, HD.out.drewN _⟩
          refine (isPermB_false ?_).symm
          intro hp
          have := (hp.2.2 k (by have := HL.out; omega))
          obtain ⟨g1, g2, _⟩ := this
          rw [← HX.out] at g1 g2
          rw [HL.out] at g2
          exact hr ⟨g1, g2⟩
      · have hkn : k = n := by omega
        subst hkn
        go_wp2
        go_ret
        refine ⟨ret_bool ?_, HD.out⟩
        exact (isPermB_true ⟨by have := HL.out; omega, by have := HL.out; omega, by rw [HL.out]; exact HA.out⟩).symm
  · go_enter Try.func107, Try.ntmps107
    go_wp2_with (go_at_call 82; refine (l1In_no (by omega) _).mono ?_; rintro e w1 ⟨rfl, hD1⟩)
    go_ret
    refine ⟨ret_bool ?_, hD1⟩
    exact (isPermB_false (fun hp => hsz ⟨by have := hp.1; omega, by have := hp.2.1; omega⟩)).symm
theorem specIsPerm_is {A : Option Addr} {n : Nat} (c : Nat) {xs : List Int} {w : World} {b : Bool} (hb : isPermB xs = b) (hs : SI w A n xs) (hnc : n ≤ c) (hn : n ≤ 1099511627776) :
    Calls Try.prog 107 #[.slice A n c] w fun e w' => e = .returned (.bool b) ∧ Drawn w w' := by
  subst hb; exact specIsPerm_any A n c xs w hs hnc hn
theorem isPermB_P {xs : List Int} (h : isPermB xs = true) : isPermP xs := (isPermB_iff xs).1 h
theorem isPermP.range {xs : List Int} (h : isPermP xs) (k : Nat) (hk : k < xs.length) : 0 ≤ nth xs k ∧ nth xs k < (xs.length : Int) := by
  obtain ⟨h1, h2, _⟩ := h.2.2 k hk
  omega
end Go.Proofs.Ytfaegfhbbkicgaa

/-
  Contracts of the specification's functions that build lists: identity, longest. Conditions: lengths below 2^40.
-/


namespace Go.Proofs.Ytfaegfhbbkicgaa
open Go.RowKit

def idL (n : Nat) : List Int := (List.range n).map fun (j : Nat) => (j : Int)
theorem idL_len (n : Nat) : (idL n).length = n := by simp [idL]
theorem idL_succ (n : Nat) : idL (n + 1) = idL n ++ [(n : Int)] := by simp [idL, List.range_succ]
/-- n-1, n-2, .., k numbers. -/
def downL (n k : Nat) : List Int := (List.range k).map fun (j : Nat) => (n : Int) - 1 - (j : Int)
theorem downL_len (n k : Nat) : (downL n k).length = k := by simp [downL]
theorem downL_succ (n k : Nat) : downL n (k + 1) = downL n k ++ [(n : Int) - 1 - (k : Int)] := by simp [downL, List.range_succ]

set_option maxHeartbeats 400000 in
theorem specIdentity_in (n : Nat) (w : World) (h1 : 1 ≤ n) (h7 : n ≤ 7) :
    Calls Try.prog 151 #[.int .i64 n] w fun e w' => Fresh w w' e (idL n) := by
  go_enter Try.func151, Try.ntmps151
  go_wp2_with (go_at_call 82; refine (l1In_yes' (by omega) (by omega) _).mono ?_; rintro e w' ⟨rfl, rfl⟩)
  go_loopw [3, 4] (fun v i wr => ∃ (k : Nat) (A : Option Addr) (c : Nat), k ≤ n ∧ i = .int .i64 k ∧ v = .slice A k c ∧ Own wr w.heap.size wr.heap.size A k c (idL k) ∧ Below w.heap.size w wr)
    (fun _ i _ => n - (intOf i).toNat)
  case atStart => exact ⟨0, _, _, Nat.zero_le _, rfl, rfl, (Own.empty w).wide (Nat.le_refl _) (by simp), Below.alloc_self _ _⟩
  case round =>
    obtain ⟨k, A, c, hk, rfl, rfl, hown, hbel⟩ := hrel
    have HO := Lib.hid hown
    have HB := Lib.hid hbel
    clear hown hbel
    by_cases hlt : k < n
    · go_wp2_with (at_builtin; refine wpList_append1 rfl (.tmp 14) (.tmp 16) rfl w.heap.size A k c (idL k) (k : Int) rfl rfl HO.out HB.out.size (by omega) ?_; intro A' c' w1 ho1 _ hb1)
      go_roundw
      case rel => exact ⟨k + 1, _, _, by omega, by go_num, rfl, by rw [idL_succ]; exact ho1, HB.out.trans hb1⟩
      case measure => simp [intOf]; omega
    · have hkn : k = n := by omega
      subst hkn
      go_wp2
      go_ret
      exact ⟨A, _, c, rfl, HO.out, HB.out⟩
theorem specIdentity_out (a : Int) (w : World) (h : a < 1 ∨ 7 < a) :
    Calls Try.prog 151 #[.int .i64 a] w fun e w' => Fresh w w' e [] := by
  go_enter Try.func151, Try.ntmps151
  go_wp2_with (go_at_call 82; refine (l1In_no' (by omega) _).mono ?_; rintro e w' ⟨rfl, rfl⟩)
  go_ret
  exact ⟨none, 0, 0, rfl, Own.nil _ _ _, Below.refl _ _⟩
/-- What IdentityPerm answers. -/
def idPerm (a : Int) : List Int := if 1 ≤ a ∧ a ≤ 7 then idL a.toNat else []
theorem idPerm_small (a : Int) : (idPerm a).length ≤ 1099511627775 := by
  unfold idPerm; split
  · rw [idL_len]; omega
  · simp
theorem specIdentity_any (a : Int) (w : World) : Calls Try.prog 151 #[.int .i64 a] w fun e w' => Fresh w w' e (idPerm a) := by
  unfold idPerm
  split
  · rename_i h
    have e : a = ((a.toNat : Nat) : Int) := by omega
    have := specIdentity_in a.toNat w (by omega) (by omega)
    rwa [← e] at this
  · exact specIdentity_out a w (by omega)

def longPerm (a : Int) : List Int := if 1 ≤ a ∧ a ≤ 7 then downL a.toNat a.toNat else []
theorem longPerm_small (a : Int) : (longPerm a).length ≤ 1099511627775 := by
  unfold longPerm; split
  · rw [downL_len]; omega
  · simp
end Go.Proofs.Ytfaegfhbbkicgaa

/-
  Contracts of the specification's functions: products, inverses. Conditions: lengths below 2^40.
-/

namespace Go.Proofs.Ytfaegfhbbkicgaa
open Go.RowKit

/-- The first k numbers of a product. -/
def compL (u v : List Int) (k : Nat) : List Int := (List.range k).map fun i => nth u (nth v i).toNat
theorem compL_len (u v : List Int) (k : Nat) : (compL u v k).length = k := by simp [compL]
theorem compL_succ (u v : List Int) (k : Nat) : compL u v (k + 1) = compL u v k ++ [nth u (nth v k).toNat] := by simp [compL, List.range_succ]

/-- What ComposePerms answers. -/
def compPerm (us vs : List Int) : List Int := if isPermB us = true ∧ isPermB vs = true ∧ us.length = vs.length then compL us vs vs.length else []

theorem Fresh.nil_ret {w w' : World} (h : Below w.heap.size w w') : Fresh w w' (.returned (.slice none 0 0)) [] := ⟨none, 0, 0, rfl, Own.nil _ _ _, h⟩
theorem Fresh.after {w w1 w2 : World} {e : Ending} {ys : List Int} (hb : Below w.heap.size w w1) (h : Fresh w1 w2 e ys) : Fresh w w2 e ys := by
  obtain ⟨A, n, c, he, ho, hb2⟩ := h
  exact ⟨A, n, c, he, ho.wide hb.size (Nat.le_refl _), hb.trans (hb2.mono hb.size)⟩

theorem compPerm_no {us vs : List Int} (h : isPermB us = false ∨ isPermB vs = false ∨ us.length ≠ vs.length) : compPerm us vs = [] := by
  unfold compPerm
  rw [if_neg]
  rintro ⟨h1, h2, h3⟩
  rcases h with h | h | h
  · rw [h1] at h; cases h
  · rw [h2] at h; cases h
  · exact h h3
theorem compPerm_yes {us vs : List Int} (h1 : isPermB us = true) (h2 : isPermB vs = true) (h3 : us.length = vs.length) : compPerm us vs = compL us vs vs.length := by
  unfold compPerm
  rw [if_pos ⟨h1, h2, h3⟩]
theorem isPermB_small {xs : List Int} (h : isPermB xs = true) : xs.length ≤ 1099511627775 := by have := (isPermB_P h).2.1; omega
theorem compPerm_small (us vs : List Int) : (compPerm us vs).length ≤ 1099511627775 := by
  unfold compPerm
  split
  · rename_i h
    rw [compL_len]; exact isPermB_small h.2.1
  · simp
/-- The inverse, k places filled. -/
def invM (xs : List Int) (n k : Nat) : List Int := (List.range k).foldl (fun acc i => acc.set (nth xs i).toNat (i : Int)) (List.replicate n 0)
theorem invM_succ (xs : List Int) (n k : Nat) : invM xs n (k + 1) = (invM xs n k).set (nth xs k).toNat (k : Int) := by simp [invM, List.range_succ]
theorem invM_len (xs : List Int) (n k : Nat) : (invM xs n k).length = n := by
  induction k with
  | zero => simp [invM]
  | succ k ih => rw [invM_succ]; simpa using ih

/-- What InversePerm answers. -/
def invPerm (xs : List Int) : List Int := if isPermB xs = true then invM xs xs.length xs.length else []
theorem invPerm_no {xs : List Int} (h : isPermB xs = false) : invPerm xs = [] := by unfold invPerm; rw [if_neg (by rw [h]; decide)]
theorem invPerm_yes {xs : List Int} (h : isPermB xs = true) : invPerm xs = invM xs xs.length xs.length := by unfold invPerm; rw [if_pos h]
theorem invPerm_small (xs : List Int) : (invPerm xs).length ≤ 1099511627775 := by
  unfold invPerm
  split
  · rename_i h
    rw [invM_len]; exact isPermB_small h
  · simp
end Go.Proofs.Ytfaegfhbbkicgaa

/-
  Contracts of the specification's codes, lengths and descents. Conditions: lengths below 2^40.
-/

namespace Go.Proofs.Ytfaegfhbbkicgaa
open Go.RowKit

/-- How many of the places behind i and before j have a smaller number. -/
def codeCnt (xs : List Int) (i : Nat) : Nat → Nat
  | 0 => 0
  | j + 1 => codeCnt xs i j + if i < j ∧ nth xs j < nth xs i then 1 else 0
theorem codeCnt_le (xs : List Int) (i j : Nat) : codeCnt xs i j ≤ j := by
  induction j with
  | zero => exact Nat.le_refl _
  | succ j ih => unfold codeCnt; split <;> omega
theorem codeCnt_low (xs : List Int) (i j : Nat) (h : j ≤ i + 1) : codeCnt xs i j = 0 := by
  induction j with
  | zero => rfl
  | succ j ih => unfold codeCnt; rw [ih (by omega), if_neg (by omega)]
theorem codeCnt_hit {xs : List Int} {i j : Nat} (h : i < j) (hx : nth xs j < nth xs i) : codeCnt xs i (j + 1) = codeCnt xs i j + 1 := by
  show codeCnt xs i j + (if i < j ∧ nth xs j < nth xs i then 1 else 0) = _
  rw [if_pos ⟨h, hx⟩]
theorem codeCnt_miss {xs : List Int} {i j : Nat} (hx : ¬ nth xs j < nth xs i) : codeCnt xs i (j + 1) = codeCnt xs i j := by
  show codeCnt xs i j + (if i < j ∧ nth xs j < nth xs i then 1 else 0) = _
  rw [if_neg (fun h => hx h.2)]; rfl
/-- The code, k places filled. -/
def codeL (xs : List Int) (n k : Nat) : List Int := (List.range n).map fun i => if i < k then (codeCnt xs i n : Int) else 0
theorem codeL_len (xs : List Int) (n k : Nat) : (codeL xs n k).length = n := by simp [codeL]
theorem codeL_nth (xs : List Int) (n k i : Nat) (h : i < n) : nth (codeL xs n k) i = if i < k then (codeCnt xs i n : Int) else 0 := by
  rw [nth_get (by rw [codeL_len]; exact h)]; simp [codeL]
theorem codeL_zero (xs : List Int) (n : Nat) : codeL xs n 0 = List.replicate n 0 := by
  apply List.ext_getElem (by simp [codeL])
  intro j h1 h2; simp [codeL]
theorem codeL_set0 (xs : List Int) (n k : Nat) (_h : k < n) : (codeL xs n k).set k 0 = codeL xs n k := by
  apply List.ext_getElem (by simp)
  intro j h1 h2
  rw [List.getElem_set]
  split
  · rename_i e; subst e; simp [codeL]
  · rfl
theorem codeL_set (xs : List Int) (n k : Nat) (_h : k < n) : (codeL xs n k).set k (codeCnt xs k n : Int) = codeL xs n (k + 1) := by
  apply List.ext_getElem (by simp [codeL])
  intro j h1 h2
  rw [List.getElem_set]
  simp only [codeL, List.getElem_map, List.getElem_range]
  by_cases e : k = j
  · subst e; simp
  · rw [if_neg e]
    by_cases h3 : j < k
    · rw [if_pos h3, if_pos (by omega)]
    · rw [if_neg h3, if_neg (by omega)]

set_option maxHeartbeats 1000000 in
theorem l1Code_any (A : Option Addr) (n c : Nat) (xs : List Int) (w : World) (hs : SI w A n xs) (hn : n ≤ 1099511627776) :
    Calls Try.prog 150 #[.slice A n c] w fun e w' => Fresh w w' e (codeL xs n n) := by
  go_enter Try.func150, Try.ntmps150
  go_wp2_with (at_make; refine wpList_make_zero rfl (.tmp 7) (.tmp 7) rfl n rfl rfl hn ?_; intro w0 ho0 hb0)
  go_loopw [4] (fun i wr => ∃ k : Nat, k ≤ n ∧ i = .int .i64 k ∧ Own wr w.heap.size wr.heap.size (some ⟨w.heap.size, 0, none⟩) n n (codeL xs n k) ∧ Below w.heap.size w wr)
    (fun i _ => n - (intOf i).toNat)
  case atStart => exact ⟨0, Nat.zero_le _, rfl, by rw [codeL_zero]; exact ho0, hb0⟩
  case round =>
    obtain ⟨k, hk, rfl, hown, hbel⟩ := hrel
    obtain ⟨wo, hwo⟩ : ∃ wo : World, wo = wr := ⟨_, rfl⟩
    rw [← hwo] at hown hbel ⊢
    have HO := Lib.hid hown
    have HB := Lib.hid hbel
    clear ho0 hb0 hown hbel hwo wr
    by_cases hlt : k < n
    · go_wp2
      go_loopw [5] (fun jv wr => ∃ j : Nat, k + 1 ≤ j ∧ j ≤ n ∧ jv = .int .i64 j ∧ Own wr w.heap.size wr.heap.size (some ⟨w.heap.size, 0, none⟩) n n ((codeL xs n k).set k (codeCnt xs k j : Int)) ∧ Below w.heap.size w wr)
        (fun jv _ => n - (intOf jv).toNat)
      case atStart =>
        refine ⟨k + 1, Nat.le_refl _, by omega, by go_num, ?_, HB.out⟩
        rw [codeCnt_low xs k (k + 1) (Nat.le_refl _)]
        rw [show ((0 : Nat) : Int) = 0 from rfl, codeL_set0 xs n k hlt]
        exact HO.out
      case round =>
        obtain ⟨j, hj1, hj, rfl, hown, hbel⟩ := hrel
        have HO2 := Lib.hid hown
        have HB2 := Lib.hid hbel
        clear hown hbel
        by_cases hjlt : j < n
        · obtain ⟨b, o, e1, hb, hc⟩ := (hs.below HB2.out (Nat.le_refl _)).at_ (by omega)
          have hcj := hc j hjlt
          have hck := hc k hlt
          obtain ⟨x, hx⟩ : ∃ x, x = nth xs j := ⟨_, rfl⟩
          obtain ⟨y, hy⟩ : ∃ y, y = nth xs k := ⟨_, rfl⟩
          rw [← hx] at hcj
          rw [← hy] at hck
          have HX := Lib.hid hx
          have HY := Lib.hid hy
          subst e1
          clear hc hs hx hy
          have hlI : (j : Int) < (n : Int) := by omega
          have hlK : (k : Int) < (n : Int) := by omega
          have hcl : (codeCnt xs k j : Int) ≤ 1099511627776 := by have := codeCnt_le xs k j; omega
          obtain ⟨q, hq⟩ : ∃ q, q = codeCnt xs k j := ⟨_, rfl⟩
          rw [← hq] at hcl
          have HQ := Lib.hid hq
          clear hq
          have hown2 := HO2.out
          rw [← HQ.out] at hown2
          have hcO : wr.cell? ⟨w.heap.size, k, none⟩ = some (.int .i64 (q : Int)) := by
            rw [hown2.cellAt hlt, nth_get (by simp [codeL_len]; exact hlt)]; simp
          have hfO := hown2.frozenAt k
          have hst := hown2.set_ (k := k) ((q : Int) + 1)
          rw [List.set_set] at hst
          have HS1 := Lib.hid hst.1
          clear hst hown2
          by_cases hxy : x < y
          · go_wp2_with fail
            go_quiet (fail)
            go_wp2
            go_roundw
            case rel =>
              have e1 := HX.out
              have e2 := HY.out
              refine ⟨j + 1, by omega, by omega, by go_num, ?_, (by first | exact (HB2.out.drawnN _).setCell (Nat.le_refl _) _ | exact (HB2.out.setCell (Nat.le_refl _) _).drawnN _)⟩
              rw [codeCnt_hit (by omega) (by omega), ← HQ.out]
              rw [show (((q + 1 : Nat)) : Int) = (q : Int) + 1 from by omega]
              exact (HS1.out.drawn ⟨_, rfl⟩).wide (Nat.le_refl _) (by simp)
            case measure => simp [intOf]; omega
          · go_wp2_with fail
            go_quiet (fail)
            go_wp2
            go_roundw
            case rel =>
              have e1 := HX.out
              have e2 := HY.out
              refine ⟨j + 1, by omega, by omega, by go_num, ?_, HB2.out.drawnN _⟩
              rw [codeCnt_miss (by omega)]
              exact HO2.out.drawn ⟨_, rfl⟩
            case measure => simp [intOf]; omega
        · have hjn : j = n := by omega
          subst hjn
          go_wp2
          go_roundw
          case rel =>
            refine ⟨k + 1, by omega, by go_num, ?_, HB2.out⟩
            rw [← codeL_set xs _ k hlt]
            exact HO2.out
          case measure => simp [intOf]; omega
    · have hkn : k = n := by omega
      subst hkn
      go_wp2
      go_ret
      exact ⟨_, _, _, rfl, HO.out, HB.out⟩

/-- The sum of the first k numbers. -/
def sumN (xs : List Int) : Nat → Int
  | 0 => 0
  | k + 1 => sumN xs k + nth xs k
set_option maxHeartbeats 400000 in
theorem l1Sum_any (A : Option Addr) (n c : Nat) (xs : List Int) (w : World) (hs : SI w A n xs) (hn : n ≤ 1099511627776) (hb : ∀ k, k ≤ n → -1099511627776 ≤ sumN xs k ∧ sumN xs k ≤ 1099511627776) :
    Calls Try.prog 143 #[.slice A n c] w fun e w' => e = .returned (.int .i64 (sumN xs n)) ∧ Drawn w w' := by
  have HBd := Lib.hid hb
  clear hb
  go_enter Try.func143, Try.ntmps143
  go_wp2
  go_loopw [3, 4] (fun v i wr => ∃ k : Nat, k ≤ n ∧ i = .int .i64 k ∧ v = .int .i64 (sumN xs k) ∧ Drawn w wr)
    (fun _ i _ => n - (intOf i).toNat)
  case atStart => exact ⟨0, Nat.zero_le _, rfl, rfl, Drawn.refl _⟩
  case round =>
    obtain ⟨k, hk, rfl, rfl, hD⟩ := hrel
    have hs := hD.si hs
    have HD := Lib.hid hD
    clear hD
    by_cases hlt : k < n
    · obtain ⟨b, o, rfl, hb, hc⟩ := hs.at_ (by omega)
      have hc1 := hc k hlt
      obtain ⟨x, hx⟩ : ∃ x, x = nth xs k := ⟨_, rfl⟩
      obtain ⟨y, hy⟩ : ∃ y, y = sumN xs k := ⟨_, rfl⟩
      have h1 := HBd.out k (by omega)
      have h2 := HBd.out (k + 1) (by omega)
      have e : sumN xs (k + 1) = sumN xs k + nth xs k := rfl
      rw [← hx, ← hy] at e
      rw [e] at h2
      rw [← hy] at h1 ⊢
      rw [← hx] at hc1
      obtain ⟨h21, h22⟩ := h2
      have HE := Lib.hid e
      clear hc hs hx hy e
      go_wp2
      go_roundw
      case rel => exact ⟨k + 1, by omega, by go_num, by rw [HE.out], HD.out⟩
      case measure => simp [intOf]; omega
    · have hkn : k = n := by omega
      subst hkn
      go_wp2
      go_ret
      exact ⟨rfl, HD.out⟩

theorem sumN_code (xs : List Int) (n : Nat) (h7 : n ≤ 7) : ∀ k, k ≤ n → 0 ≤ sumN (codeL xs n n) k ∧ sumN (codeL xs n n) k ≤ 7 * (k : Int) := by
  intro k
  induction k with
  | zero => intro _; exact ⟨Int.le_refl _, by simp [sumN]⟩
  | succ k ih =>
    intro hk
    obtain ⟨h1, h2⟩ := ih (by omega)
    have e : sumN (codeL xs n n) (k + 1) = sumN (codeL xs n n) k + nth (codeL xs n n) k := rfl
    rw [e, codeL_nth _ _ _ _ (by omega), if_pos (by omega)]
    have := codeCnt_le xs k n
    omega
/-- The length of a permutation, by its code. -/
def lenL (xs : List Int) : Int := sumN (codeL xs xs.length xs.length) xs.length
theorem lenL_bounds {xs : List Int} (h7 : xs.length ≤ 7) : 0 ≤ lenL xs ∧ lenL xs ≤ 49 := by
  have := sumN_code xs xs.length h7 xs.length (Nat.le_refl _)
  unfold lenL
  omega
set_option maxHeartbeats 400000 in
theorem l1Length_any (A : Option Addr) (n c : Nat) (xs : List Int) (w : World) (hs : SI w A n xs) (h7 : n ≤ 7) :
    Calls Try.prog 91 #[.slice A n c] w fun e w' => e = .returned (.int .i64 (lenL xs)) ∧ Below w.heap.size w w' := by
  have hl := hs.1
  go_enter Try.func91, Try.ntmps91
  go_wp2_with fail
  refine (l1Code_any _ _ _ xs _ hs (by omega)).mono ?_
  rintro e w1 ⟨A1, n1, c1, rfl, ho1, hb1⟩
  have e1 : n1 = n := by have := ho1.len; rw [codeL_len] at this; omega
  subst e1
  have HB := Lib.hid hb1
  clear hb1
  go_wp2_with fail
  refine (l1Sum_any _ _ _ _ _ ho1.si (by omega) (fun k hk => by have := sumN_code xs n1 h7 k hk; omega)).mono ?_
  rintro e w2 ⟨rfl, hd2⟩
  go_wp2
  go_ret
  refine ⟨ret_int ?_, HB.out.trans (hd2.below _)⟩
  unfold lenL
  rw [hl]
/-- What LengthOf answers. -/
def lenPerm (xs : List Int) : Int := if isPermB xs = true then lenL xs else -1
theorem lenPerm_no {xs : List Int} (h : isPermB xs = false) : lenPerm xs = -1 := by unfold lenPerm; rw [if_neg (by rw [h]; decide)]
theorem lenPerm_yes {xs : List Int} (h : isPermB xs = true) : lenPerm xs = lenL xs := by unfold lenPerm; rw [if_pos h]
/-- What CodeOf answers. -/
def codePerm (xs : List Int) : List Int := if isPermB xs = true then codeL xs xs.length xs.length else []
theorem codePerm_no {xs : List Int} (h : isPermB xs = false) : codePerm xs = [] := by unfold codePerm; rw [if_neg (by rw [h]; decide)]
theorem codePerm_yes {xs : List Int} (h : isPermB xs = true) : codePerm xs = codeL xs xs.length xs.length := by unfold codePerm; rw [if_pos h]
theorem codePerm_small (xs : List Int) : (codePerm xs).length ≤ 1099511627775 := by
  unfold codePerm
  split
  · rename_i h
    rw [codeL_len]; exact isPermB_small h
  · simp
/-- The descents among the first k places. -/
def descL (xs : List Int) : Nat → List Int
  | 0 => []
  | k + 1 => if nth xs (k + 1) < nth xs k then descL xs k ++ [(k : Int)] else descL xs k
theorem descL_len (xs : List Int) (k : Nat) : (descL xs k).length ≤ k := by
  induction k with
  | zero => exact Nat.le_refl _
  | succ k ih =>
    unfold descL
    split
    · simp; omega
    · omega
theorem descL_hit {xs : List Int} {k : Nat} (h : nth xs (k + 1) < nth xs k) : descL xs (k + 1) = descL xs k ++ [(k : Int)] := by
  show (if nth xs (k + 1) < nth xs k then descL xs k ++ [(k : Int)] else descL xs k) = _
  rw [if_pos h]
theorem descL_miss {xs : List Int} {k : Nat} (h : ¬ nth xs (k + 1) < nth xs k) : descL xs (k + 1) = descL xs k := by
  show (if nth xs (k + 1) < nth xs k then descL xs k ++ [(k : Int)] else descL xs k) = _
  rw [if_neg h]
def descPerm (xs : List Int) : List Int := if isPermB xs = true then descL xs (xs.length - 1) else []
theorem descPerm_no {xs : List Int} (h : isPermB xs = false) : descPerm xs = [] := by unfold descPerm; rw [if_neg (by rw [h]; decide)]
theorem descPerm_yes {xs : List Int} (h : isPermB xs = true) : descPerm xs = descL xs (xs.length - 1) := by unfold descPerm; rw [if_pos h]
theorem descPerm_small (xs : List Int) : (descPerm xs).length ≤ 1099511627775 := by
  unfold descPerm
  split
  · rename_i h
    have := descL_len xs (xs.length - 1)
    have := isPermB_small h
    omega
  · simp
end Go.Proofs.Ytfaegfhbbkicgaa

/-
  Terms and polynomials as lists: keys, their order, when a list of terms is a polynomial. Plain lemmas. No conditions.
-/

namespace Go.Proofs.Ytfaegfhbbkicgaa
open Go.RowKit

/-- A term: its exponents and its number. -/
abbrev Tm := List Int × Int
def tm (ts : List Tm) (k : Nat) : Tm := ts.getD k ([], 0)
theorem tm_get {ts : List Tm} {k : Nat} (h : k < ts.length) : tm ts k = ts[k] := by simp [tm, List.getD, h]
theorem tm_get? {ts : List Tm} {k : Nat} (h : k < ts.length) : ts[k]? = some (tm ts k) := by simp [tm, List.getD, h]
theorem take_tm {ts : List Tm} {k : Nat} (h : k < ts.length) : ts.take (k + 1) = ts.take k ++ [tm ts k] := by
  rw [List.take_succ_eq_append_getElem h, tm_get h]
theorem tm_app_lt {ts us : List Tm} {k : Nat} (h : k < ts.length) : tm (ts ++ us) k = tm ts k := by simp [tm, List.getD, List.getElem?_append, h]
theorem tm_app_at {ts : List Tm} {t : Tm} : tm (ts ++ [t]) ts.length = t := by simp [tm, List.getD]
theorem tm_ext {ts us : List Tm} (hl : ts.length = us.length) (h : ∀ j, j < ts.length → tm ts j = tm us j) : ts = us := by
  apply List.ext_getElem hl
  intro j h1 h2
  have := h j h1
  rwa [tm_get h1, tm_get h2] at this

/-- The key of exponents: seven bits for each, the last in front. -/
def key7 (e : List Int) : Int := e.foldr (fun x k => k * 128 + x) 0
theorem key7_drop {e : List Int} {i : Nat} (h : i < e.length) : key7 (e.drop i) = key7 (e.drop (i + 1)) * 128 + nth e i := by
  rw [List.drop_eq_getElem_cons h, nth_get h]; rfl
/-- All exponents are from 0 to 24. -/
def smallE (e : List Int) : Bool := e.all fun x => decide (0 ≤ x ∧ x ≤ 24)
theorem smallE_nth {e : List Int} (h : smallE e = true) {k : Nat} (hk : k < e.length) : 0 ≤ nth e k ∧ nth e k ≤ 24 := by
  rw [nth_get hk]
  have := List.all_eq_true.1 h _ (List.getElem_mem hk)
  simpa using this
theorem smallE_all {e : List Int} (h : ∀ k, k < e.length → 0 ≤ nth e k ∧ nth e k ≤ 24) : smallE e = true := by
  apply List.all_eq_true.2
  intro x hx
  obtain ⟨k, hk, rfl⟩ := List.getElem_of_mem hx
  have := h k hk
  rw [nth_get hk] at this
  simpa using this
theorem smallE_no {e : List Int} {k : Nat} (hk : k < e.length) (h : nth e k < 0 ∨ 24 < nth e k) : smallE e = false := by
  cases hb : smallE e with
  | false => rfl
  | true => have := smallE_nth hb hk; omega
theorem key7_bound : ∀ (e : List Int), (∀ k, k < e.length → 0 ≤ nth e k ∧ nth e k ≤ 24) → 0 ≤ key7 e ∧ key7 e < 128 ^ e.length
  | [], _ => by simp [key7]
  | x :: e, h => by
    have ih := key7_bound e (fun k hk => by have := h (k + 1) (by simp; omega); simpa [nth] using this)
    have h0 := h 0 (by simp)
    have h1 : nth (x :: e) 0 = x := by simp [nth]
    rw [h1] at h0
    have e1 : key7 (x :: e) = key7 e * 128 + x := rfl
    rw [e1, List.length_cons, Int.pow_succ]
    omega
theorem key7_lt : ∀ (a b : List Int) (i : Nat), a.length = b.length → (∀ k, k < a.length → 0 ≤ nth a k ∧ nth a k ≤ 127) → (∀ k, k < b.length → 0 ≤ nth b k ∧ nth b k ≤ 127) → i < a.length →
    (∀ j, i < j → j < a.length → nth a j = nth b j) → nth a i < nth b i → key7 a < key7 b
  | [], _, i, _, _, _, hi, _, _ => absurd hi (by simp)
  | x :: a, [], i, hl, _, _, _, _, _ => absurd hl (by simp)
  | x :: a, y :: b, 0, hl, ha, hb, hi, he, hx => by
    have e1 : key7 (x :: a) = key7 a * 128 + x := rfl
    have e2 : key7 (y :: b) = key7 b * 128 + y := rfl
    have e3 : a = b := by
      apply List.ext_getElem (by simpa using hl)
      intro j h1 h2
      have := he (j + 1) (by omega) (by simp; omega)
      simpa [nth, h1, h2] using this
    have h0 : x < y := by simpa [nth] using hx
    rw [e1, e2, e3]
    omega
  | x :: a, y :: b, i + 1, hl, ha, hb, hi, he, hx => by
    have e1 : key7 (x :: a) = key7 a * 128 + x := rfl
    have e2 : key7 (y :: b) = key7 b * 128 + y := rfl
    have ih := key7_lt a b i (by simpa using hl) (fun k hk => by have := ha (k + 1) (by simp; omega); simpa [nth] using this) (fun k hk => by have := hb (k + 1) (by simp; omega); simpa [nth] using this) (by simpa using hi)
      (fun j h1 h2 => by have := he (j + 1) (by omega) (by simp; omega); simpa [nth] using this) (by simpa [nth] using hx)
    have ha0 := ha 0 (by simp)
    have hb0 := hb 0 (by simp)
    have h1 : nth (x :: a) 0 = x := by simp [nth]
    have h2 : nth (y :: b) 0 = y := by simp [nth]
    rw [h1] at ha0
    rw [h2] at hb0
    rw [e1, e2]
    omega

/-- A term with seven exponents from 0 to 24 and a number other than 0 of at most a million. -/
def goodT (t : Tm) : Bool := decide (t.1.length = 7) && smallE t.1 && decide (t.2 ≠ 0 ∧ -1000000 ≤ t.2 ∧ t.2 ≤ 1000000)
theorem goodT_iff (t : Tm) : goodT t = true ↔ t.1.length = 7 ∧ smallE t.1 = true ∧ t.2 ≠ 0 ∧ -1000000 ≤ t.2 ∧ t.2 ≤ 1000000 := by
  simp [goodT, and_assoc]
theorem goodT_no {t : Tm} (h : ¬ (t.1.length = 7 ∧ smallE t.1 = true ∧ t.2 ≠ 0 ∧ -1000000 ≤ t.2 ∧ t.2 ≤ 1000000)) : goodT t = false := by
  cases hb : goodT t with
  | false => rfl
  | true => exact absurd ((goodT_iff t).1 hb) h
/-- Term k is good and stands behind the one ahead of it. -/
def okAt (ts : List Tm) (k : Nat) : Bool := goodT (tm ts k) && (decide (k = 0) || decide (key7 (tm ts k).1 < key7 (tm ts (k - 1)).1))
def polyB (ts : List Tm) : Bool := decide (ts.length ≤ 600) && (List.range ts.length).all fun k => okAt ts k
theorem polyB_big {ts : List Tm} (h : 600 < ts.length) : polyB ts = false := by simp [polyB]; omega
theorem polyB_all {ts : List Tm} (h : ts.length ≤ 600) (hk : ∀ k, k < ts.length → okAt ts k = true) : polyB ts = true := by
  simp only [polyB, Bool.and_eq_true, decide_eq_true_eq, List.all_eq_true, List.mem_range]
  exact ⟨h, hk⟩
theorem polyB_len {ts : List Tm} (h : polyB ts = true) : ts.length ≤ 600 := by
  simp only [polyB, Bool.and_eq_true, decide_eq_true_eq] at h
  exact h.1
theorem polyB_ok {ts : List Tm} (h : polyB ts = true) {k : Nat} (hk : k < ts.length) : okAt ts k = true := by
  simp only [polyB, Bool.and_eq_true, decide_eq_true_eq, List.all_eq_true, List.mem_range] at h
  exact h.2 k hk
theorem polyB_good {ts : List Tm} (h : polyB ts = true) {k : Nat} (hk : k < ts.length) : goodT (tm ts k) = true := by
  have := polyB_ok h hk
  simp only [okAt, Bool.and_eq_true] at this
  exact this.1
theorem polyB_no {ts : List Tm} {k : Nat} (hk : k < ts.length) (h : okAt ts k = false) : polyB ts = false := by
  cases hb : polyB ts with
  | false => rfl
  | true => have := polyB_ok hb hk; rw [h] at this; cases this
theorem okAt_good {ts : List Tm} {k : Nat} (h : okAt ts k = true) : goodT (tm ts k) = true := by
  simp only [okAt, Bool.and_eq_true] at h
  exact h.1
theorem okAt_bad {ts : List Tm} {k : Nat} (h : goodT (tm ts k) = false) : okAt ts k = false := by simp [okAt, h]
theorem okAt_zero {ts : List Tm} (h : goodT (tm ts 0) = true) : okAt ts 0 = true := by simp [okAt, h]
theorem okAt_step {ts : List Tm} {k : Nat} (h : goodT (tm ts k) = true) (hk : key7 (tm ts k).1 < key7 (tm ts (k - 1)).1) : okAt ts k = true := by simp [okAt, h, hk]
theorem okAt_wrong {ts : List Tm} {k : Nat} (h0 : 0 < k) (hk : ¬ key7 (tm ts k).1 < key7 (tm ts (k - 1)).1) : okAt ts k = false := by
  have : k ≠ 0 := by omega
  simp [okAt, hk, this]
end Go.Proofs.Ytfaegfhbbkicgaa

/-
  Slices of terms in memory: how they read, and slices of terms that a call owns. Plain lemmas. No conditions.
-/


namespace Go.Proofs.Ytfaegfhbbkicgaa
open Go.RowKit

/-- The slice (A, n) reads as the terms ts. -/
def TS (w : World) (A : Option Addr) (n : Nat) (ts : List Tm) : Prop :=
  ts.length = n ∧ (0 < n → ∃ b o, A = some ⟨b, o, none⟩ ∧ b < w.heap.size ∧ ∀ k, k < n → ∃ A' n' c', w.cell? ⟨b, o + k * 2, none⟩ = some (.slice A' n' c') ∧
    w.cell? ⟨b, o + k * 2 + 1, none⟩ = some (.int .i64 (tm ts k).2) ∧ SI w A' n' (tm ts k).1 ∧ n' ≤ c' ∧ (A' = none → n' = 0 ∧ c' = 0))
section
variable {w w' : World} {A : Option Addr} {n : Nat} {ts : List Tm}
theorem TS.nil (w : World) (A : Option Addr) : TS w A 0 [] := ⟨rfl, fun h => absurd h (by omega)⟩
theorem TS.at_ (h : TS w A n ts) {k : Nat} (hk : k < n) : ∃ b o A' n' c', A = some ⟨b, o, none⟩ ∧ b < w.heap.size ∧ w.cell? ⟨b, o + k * 2, none⟩ = some (.slice A' n' c') ∧
    w.cell? ⟨b, o + k * 2 + 1, none⟩ = some (.int .i64 (tm ts k).2) ∧ SI w A' n' (tm ts k).1 ∧ n' ≤ c' ∧ (A' = none → n' = 0 ∧ c' = 0) := by
  obtain ⟨b, o, e, hb, hc⟩ := h.2 (by omega)
  obtain ⟨A', n', c', h1⟩ := hc k hk
  exact ⟨b, o, A', n', c', e, hb, h1⟩
theorem TS.below {B : Nat} (h : TS w A n ts) (hb : Below B w w') (hB : w.heap.size ≤ B) : TS w' A n ts :=
  ⟨h.1, fun hn => by
    obtain ⟨b, o, e, hl, hc⟩ := h.2 hn
    have hs := hb.size
    refine ⟨b, o, e, by omega, fun k hk => ?_⟩
    obtain ⟨A', n', c', h1, h2, h3, h4⟩ := hc k hk
    exact ⟨A', n', c', (hb.cell (p := ⟨b, o + k * 2, none⟩) (by show b < B; omega)).trans h1, (hb.cell (p := ⟨b, o + k * 2 + 1, none⟩) (by show b < B; omega)).trans h2, h3.below hb hB, h4⟩⟩
theorem TS.drewN (h : TS w A n ts) (k : Nat) : TS (w.drewN k) A n ts := h
theorem TS.drawn (h : TS w A n ts) (hd : Drawn w w') : TS w' A n ts := by obtain ⟨m, rfl⟩ := hd; exact h
theorem TS.alloc (h : TS w A n ts) (o : Obj) : TS (w.alloc o) A n ts := h.below ((Below.refl w.heap.size w).alloc (Nat.le_refl _) o) (Nat.le_refl _)
end

/-- A list of pairs of cells. -/
def cells2 (n : Nat) (f : Nat → Value × Value) : List Value := (List.range (n * 2)).map fun j => if j % 2 = 0 then (f (j / 2)).1 else (f (j / 2)).2
theorem cells2_len (n : Nat) (f : Nat → Value × Value) : (cells2 n f).length = n * 2 := by simp [cells2]
theorem cells2_get {n : Nat} (f : Nat → Value × Value) {j : Nat} (h : j < n * 2) : (cells2 n f)[j]? = some (if j % 2 = 0 then (f (j / 2)).1 else (f (j / 2)).2) := by
  simp [cells2, h]
theorem cells2_get0 {n : Nat} (f : Nat → Value × Value) {k : Nat} (h : k < n) : (cells2 n f)[k * 2]? = some (f k).1 := by
  rw [cells2_get f (by omega), if_pos (by omega), show k * 2 / 2 = k by omega]
theorem cells2_get1 {n : Nat} (f : Nat → Value × Value) {k : Nat} (h : k < n) : (cells2 n f)[k * 2 + 1]? = some (f k).2 := by
  rw [cells2_get f (by omega), if_neg (by omega), show (k * 2 + 1) / 2 = k by omega]
theorem cells2_congr {n : Nat} {f g : Nat → Value × Value} (h : ∀ k, k < n → f k = g k) : cells2 n f = cells2 n g := by
  apply List.map_congr_left
  intro j hj
  have := List.mem_range.1 hj
  rw [h (j / 2) (by omega)]
theorem cells2_set0 {n : Nat} (f : Nat → Value × Value) {k : Nat} (_h : k < n) (v : Value) : (cells2 n f).set (k * 2) v = cells2 n (fun j => if j = k then (v, (f j).2) else f j) := by
  apply List.ext_getElem?
  intro j
  by_cases hj : j < n * 2
  · rw [cells2_get _ hj]
    by_cases e : j = k * 2
    · subst e
      rw [List.getElem?_set_self (by rw [cells2_len]; omega), if_pos (by omega), show k * 2 / 2 = k by omega, if_pos rfl]
    · rw [List.getElem?_set_ne (by omega), cells2_get _ hj]
      by_cases e2 : j / 2 = k
      · rw [if_neg (by omega), if_neg (by omega), if_pos e2]
      · rw [if_neg e2]
  · rw [List.getElem?_eq_none (by simp [cells2_len]; omega), List.getElem?_eq_none (by simp [cells2_len]; omega)]
theorem cells2_set1 {n : Nat} (f : Nat → Value × Value) {k : Nat} (_h : k < n) (v : Value) : (cells2 n f).set (k * 2 + 1) v = cells2 n (fun j => if j = k then ((f j).1, v) else f j) := by
  apply List.ext_getElem?
  intro j
  by_cases hj : j < n * 2
  · rw [cells2_get _ hj]
    by_cases e : j = k * 2 + 1
    · subst e
      rw [List.getElem?_set_self (by rw [cells2_len]; omega), if_neg (by omega), show (k * 2 + 1) / 2 = k by omega, if_pos rfl]
    · rw [List.getElem?_set_ne (by omega), cells2_get _ hj]
      by_cases e2 : j / 2 = k
      · rw [if_pos (by omega), if_pos (by omega), if_pos e2]
      · rw [if_neg e2]
  · rw [List.getElem?_eq_none (by simp [cells2_len]; omega), List.getElem?_eq_none (by simp [cells2_len]; omega)]
theorem cells2_app (n : Nat) (f : Nat → Value × Value) (a b : Value) : cells2 n f ++ [a, b] = cells2 (n + 1) (fun j => if j = n then (a, b) else f j) := by
  apply List.ext_getElem?
  intro j
  by_cases hj : j < n * 2
  · rw [List.getElem?_append_left (by rw [cells2_len]; exact hj), cells2_get _ hj, cells2_get _ (by omega), if_neg (show ¬ j / 2 = n by omega)]
  · rw [List.getElem?_append_right (by rw [cells2_len]; omega), cells2_len]
    by_cases h1 : j = n * 2
    · subst h1
      rw [cells2_get _ (by omega), if_pos (by omega), if_pos (by omega)]; simp
    · by_cases h2 : j = n * 2 + 1
      · subst h2
        rw [cells2_get _ (by omega), if_neg (by omega), if_pos (by omega)]; simp
      · rw [List.getElem?_eq_none (by simp; omega), List.getElem?_eq_none (by simp [cells2_len]; omega)]

abbrev Sv := Option Addr × Nat × Nat
def sv (e : Sv) : Value := .slice e.1 e.2.1 e.2.2
section
variable {w w' : World} {lo hi n c : Nat} {A : Option Addr} {ts : List Tm}
theorem Own.nilcap {xs : List Int} (h : Own w lo hi none n c xs) : n = 0 ∧ c = 0 := by
  rcases h.1.2 with ⟨e, h0⟩ | ⟨g, cap, cur, e, _⟩
  · injection e with _ _ e3; exact ⟨h0, e3⟩
  · injection e with e1; cases e1
end
/-- Nothing outside lo .. hi was changed. -/
def Within (lo hi : Nat) (w w' : World) : Prop := w'.os = w.os ∧ w'.tape = w.tape ∧ w'.output = w.output ∧ w.heap.size ≤ w'.heap.size ∧ ∀ k, k < w.heap.size → k < lo ∨ hi ≤ k → w'.heap[k]? = w.heap[k]?
theorem Within.refl (lo hi : Nat) (w : World) : Within lo hi w w := ⟨rfl, rfl, rfl, Nat.le_refl _, fun _ _ _ => rfl⟩
theorem Within.trans {lo hi : Nat} {w w' w'' : World} (h : Within lo hi w w') (h' : Within lo hi w' w'') : Within lo hi w w'' :=
  ⟨h'.1.trans h.1, h'.2.1.trans h.2.1, h'.2.2.1.trans h.2.2.1, Nat.le_trans h.2.2.2.1 h'.2.2.2.1, fun k h0 hk => (h'.2.2.2.2 k (Nat.lt_of_lt_of_le h0 h.2.2.2.1) hk).trans (h.2.2.2.2 k h0 hk)⟩
theorem Within.size {lo hi : Nat} {w w' : World} (h : Within lo hi w w') : w.heap.size ≤ w'.heap.size := h.2.2.2.1
theorem Within.below {lo hi B : Nat} {w w' : World} (h : Within lo hi w w') (hB : B ≤ lo) (hB' : B ≤ w.heap.size) : Below B w w' :=
  ⟨h.1, h.2.1, h.2.2.1, h.2.2.2.1, fun k hk => h.2.2.2.2 k (by omega) (.inl (by omega))⟩
theorem Within.of_grown {lo hi : Nat} {w w' : World} {row : Option Nat} (hg : w.grownBy w' row) (hr : ∀ g, row = some g → lo ≤ g ∧ g < hi) : Within lo hi w w' :=
  ⟨hg.os, hg.tape, hg.output, hg.size, fun k h0 hk => hg.block k h0 (fun e => by have := hr k e.symm; omega)⟩
theorem Within.of_drawn {lo hi : Nat} {w w' : World} (h : Drawn w w') : Within lo hi w w' := by obtain ⟨m, rfl⟩ := h; exact ⟨rfl, rfl, rfl, Nat.le_refl _, fun _ _ _ => rfl⟩
theorem Own.within {w w' : World} {lo hi n c lo' hi' : Nat} {A : Option Addr} {xs : List Int} (h : Own w lo hi A n c xs) (hw : Within lo' hi' w w') (hd : hi ≤ lo' ∨ hi' ≤ lo) : Own w' lo hi A n c xs := by
  refine ⟨⟨h.1.1, ?_⟩, h.2⟩
  rcases h.1.2 with hn | ⟨g, cap, cur, e, hl, hg, rest⟩
  · exact .inl hn
  · have hlt := h.2 g (by rw [e]; rfl)
    have hsz := (h.1.lt g (by rw [e]; rfl)).2
    exact .inr ⟨g, cap, cur, e, hl, (hw.2.2.2.2 g hsz (by omega)).trans hg, rest⟩
theorem Own.kept {w w' : World} {lo hi n c : Nat} {A : Option Addr} {xs : List Int} {row : Option Nat} (h : Own w lo hi A n c xs) (hg : w.grownBy w' row) (hne : ∀ g, (Value.slice A n c).ownBlock = some g → row ≠ some g) : Own w' lo hi A n c xs := by
  refine ⟨h.1.kept hg ?_, h.2⟩
  cases hb : (Value.slice A n c).ownBlock with
  | none => exact .inl rfl
  | some g => exact .inr fun e => hne g hb e.symm
theorem tm_set {ts : List Tm} {k j : Nat} (hk : k < ts.length) (t : Tm) : tm (ts.set k t) j = if j = k then t else tm ts j := by
  unfold tm
  rw [List.getD_eq_getElem?_getD, List.getD_eq_getElem?_getD, List.getElem?_set]
  by_cases e : k = j
  · subst e; simp [hk]
  · rw [if_neg e, if_neg (fun h => e h.symm)]
def zeroT (n : Nat) : List Tm := List.replicate n ([], 0)
theorem zeroT_tm (n k : Nat) : tm (zeroT n) k = ([], 0) := by
  unfold tm zeroT
  by_cases h : k < n
  · simp [List.getD, h]
  · simp [List.getD, h]
end Go.Proofs.Ytfaegfhbbkicgaa

/-
  Slices of slices of numbers: as they read, and as a call's own; a list more behind them; marks. Conditions: as each lemma says.
-/


namespace Go.Proofs.Ytfaegfhbbkicgaa
open Go.RowKit

def li (ls : List (List Int)) (k : Nat) : List Int := ls.getD k []
theorem li_get {ls : List (List Int)} {k : Nat} (h : k < ls.length) : li ls k = ls[k] := by simp [li, List.getD, h]
theorem li_app_lt {ls us : List (List Int)} {k : Nat} (h : k < ls.length) : li (ls ++ us) k = li ls k := by simp [li, List.getD, List.getElem?_append, h]
theorem li_app_at {ls : List (List Int)} {t : List Int} : li (ls ++ [t]) ls.length = t := by simp [li, List.getD]
theorem li_set {ls : List (List Int)} {k j : Nat} (hk : k < ls.length) (t : List Int) : li (ls.set k t) j = if j = k then t else li ls j := by
  unfold li
  rw [List.getD_eq_getElem?_getD, List.getD_eq_getElem?_getD, List.getElem?_set]
  by_cases e : k = j
  · subst e; simp [hk]
  · rw [if_neg e, if_neg (fun h => e h.symm)]
theorem li_ext {ls us : List (List Int)} (hl : ls.length = us.length) (h : ∀ j, j < ls.length → li ls j = li us j) : ls = us := by
  apply List.ext_getElem hl
  intro j h1 h2
  have := h j h1
  rwa [li_get h1, li_get h2] at this
/-- The slice (A, n, ..) reads as these lists. -/
def LS (w : World) (A : Option Addr) (n : Nat) (ls : List (List Int)) : Prop :=
  ls.length = n ∧ (0 < n → ∃ b o, A = some ⟨b, o, none⟩ ∧ b < w.heap.size ∧ ∀ k, k < n → ∃ A' n' c', w.cell? ⟨b, o + k, none⟩ = some (.slice A' n' c') ∧
    SI w A' n' (li ls k) ∧ n' ≤ c' ∧ (A' = none → n' = 0 ∧ c' = 0))
section
variable {w w' : World} {A : Option Addr} {n : Nat} {ls : List (List Int)}
theorem LS.nil (w : World) (A : Option Addr) : LS w A 0 [] := ⟨rfl, fun h => absurd h (by omega)⟩
theorem LS.at_ (h : LS w A n ls) {k : Nat} (hk : k < n) : ∃ b o A' n' c', A = some ⟨b, o, none⟩ ∧ b < w.heap.size ∧ w.cell? ⟨b, o + k, none⟩ = some (.slice A' n' c') ∧
    SI w A' n' (li ls k) ∧ n' ≤ c' ∧ (A' = none → n' = 0 ∧ c' = 0) := by
  obtain ⟨b, o, e, hb, hc⟩ := h.2 (by omega)
  obtain ⟨A', n', c', h1⟩ := hc k hk
  exact ⟨b, o, A', n', c', e, hb, h1⟩
theorem LS.below {B : Nat} (h : LS w A n ls) (hb : Below B w w') (hB : w.heap.size ≤ B) : LS w' A n ls := by
  refine ⟨h.1, fun hn => ?_⟩
  obtain ⟨b, o, e, hlt, hc⟩ := h.2 hn
  have hsz := hb.size
  refine ⟨b, o, e, by omega, fun k hk => ?_⟩
  obtain ⟨A', n', c', h1, h2, h3⟩ := hc k hk
  exact ⟨A', n', c', by rw [Below.cell hb (p := ⟨b, o + k, none⟩) (by show b < B; omega)]; exact h1, h2.below hb hB, h3⟩
theorem LS.drawn (h : LS w A n ls) (hd : Drawn w w') : LS w' A n ls := by obtain ⟨m, rfl⟩ := hd; exact h
end
/-- The cells of n lists. -/
def heads (n : Nat) (E : Nat → Sv) : List Value := (List.range n).map fun k => sv (E k)
theorem heads_len (n : Nat) (E : Nat → Sv) : (heads n E).length = n := by simp [heads]
theorem heads_get {n : Nat} (E : Nat → Sv) {k : Nat} (h : k < n) : (heads n E)[k]? = some (sv (E k)) := by simp [heads, h]
theorem heads_congr {n : Nat} {E F : Nat → Sv} (h : ∀ k, k < n → E k = F k) : heads n E = heads n F := by
  unfold heads
  apply List.map_congr_left
  intro k hk
  rw [h k (List.mem_range.1 hk)]
theorem heads_app (n : Nat) (E : Nat → Sv) (a : Sv) : heads n E ++ [sv a] = heads (n + 1) (fun j => if j = n then a else E j) := by
  unfold heads
  rw [List.range_succ, List.map_append]
  congr 1
  · apply List.map_congr_left
    intro k hk
    have := List.mem_range.1 hk
    show sv (E k) = sv (if k = n then a else E k)
    rw [if_neg (by omega)]
  · simp
theorem heads_set {n : Nat} (E : Nat → Sv) {k : Nat} (_h : k < n) (a : Sv) : (heads n E).set k (sv a) = heads n (fun j => if j = k then a else E j) := by
  apply List.ext_getElem?
  intro j
  rw [List.getElem?_set]
  by_cases hj : j < n
  · by_cases e : k = j
    · subst e; rw [if_pos rfl, heads_len, if_pos hj, heads_get _ hj, if_pos rfl]
    · rw [if_neg e, heads_get _ hj, heads_get _ hj, if_neg (fun h => e h.symm)]
  · have h1 : (heads n E)[j]? = none := List.getElem?_eq_none (by rw [heads_len]; omega)
    have h2 : (heads n (fun j => if j = k then a else E j))[j]? = none := List.getElem?_eq_none (by rw [heads_len]; omega)
    rw [h1, h2]
    by_cases e : k = j
    · subst e; rw [if_pos rfl, heads_len, if_neg hj]
    · rw [if_neg e]
/-- The blocks of the lists named. -/
def OwnLE (E : Nat → Sv) (w : World) (lo hi : Nat) (A : Option Addr) (n c : Nat) (ls : List (List Int)) : Prop :=
  ls.length = n ∧ w.ownsRow lo 22 1 (.slice A n c) n (heads n E) ∧ (∀ k, (Value.slice A n c).ownBlock = some k → k < hi) ∧
    (∀ j, j < n → Own w lo hi (E j).1 (E j).2.1 (E j).2.2 (li ls j)) ∧ (∀ j g, j < n → (sv (E j)).ownBlock = some g → (Value.slice A n c).ownBlock ≠ some g) ∧
    (∀ i j g, i < j → j < n → (sv (E i)).ownBlock = some g → (sv (E j)).ownBlock ≠ some g)
/-- The slice (A, n, c) holds these lists: its block, and a block a list, all the call's own between lo and hi, no two of them one. -/
def OwnL (w : World) (lo hi : Nat) (A : Option Addr) (n c : Nat) (ls : List (List Int)) : Prop := ∃ E, OwnLE E w lo hi A n c ls
section
variable {w w' : World} {lo hi n c : Nat} {A : Option Addr} {ls : List (List Int)} {E : Nat → Sv}
theorem OwnL.len (h : OwnL w lo hi A n c ls) : ls.length = n := by obtain ⟨_, h1, _⟩ := h; exact h1
theorem OwnL.nil (w : World) (lo hi : Nat) : OwnL w lo hi none 0 0 [] :=
  ⟨fun _ => (none, 0, 0), rfl, by simpa [heads] using World.ownsRow_nil _ _ _ _, fun k hk => by simp [Value.ownBlock] at hk, fun j hj => absurd hj (by omega), fun j g hj => absurd hj (by omega), fun i j g _ hj => absurd hj (by omega)⟩
theorem OwnL.empty (w : World) : OwnL (w.alloc (.cells #[] 22)) w.heap.size (w.heap.size + 1) (some ⟨w.heap.size, 0, none⟩) 0 0 [] :=
  ⟨fun _ => (none, 0, 0), rfl, World.ownsRow_lit w #[] 0 (Nat.le_refl _) (Nat.zero_le _) rfl, fun k hk => by simp [Value.ownBlock] at hk; omega, fun j hj => absurd hj (by omega), fun j g hj => absurd hj (by omega), fun i j g _ hj => absurd hj (by omega)⟩
theorem OwnL.place (h : OwnL w lo hi A n c ls) (hn : 0 < n) : ∃ g, A = some ⟨g, 0, none⟩ ∧ lo ≤ g ∧ g < hi := by
  obtain ⟨E, _, ho, hh, _⟩ := h
  obtain ⟨g, cap, e, h1, _⟩ := ho.form hn
  have hA : A = some ⟨g, 0, none⟩ := by injection e
  subst hA
  exact ⟨g, rfl, h1, hh g rfl⟩
theorem Own.nilcapL {xs : List Int} (h : Own w lo hi none n c xs) : n = 0 ∧ c = 0 := by
  rcases h.1.2 with ⟨e, h0⟩ | ⟨g, cap, cur, e, _⟩
  · injection e with _ _ e3; exact ⟨h0, e3⟩
  · injection e with e1; cases e1
theorem OwnL.si (h : OwnL w lo hi A n c ls) : LS w A n ls := by
  refine ⟨h.len, fun hn => ?_⟩
  obtain ⟨g, rfl, _, _⟩ := h.place hn
  obtain ⟨E, hl, ho, hh, he, _⟩ := h
  refine ⟨g, 0, rfl, ?_, fun k hk => ?_⟩
  · obtain ⟨g', cap, e, _, h2⟩ := ho.form hn
    injection e with e1; injection e1 with e1; injection e1 with e1
    subst e1; exact h2
  · refine ⟨(E k).1, (E k).2.1, (E k).2.2, ?_, (he k hk).si, (he k hk).cap, ?_⟩
    · rw [Nat.zero_add, ho.cellAt k (by omega), heads_get _ hk]; rfl
    · intro e
      have := he k hk
      rw [e] at this
      exact this.nilcapL
theorem OwnLE.below {B : Nat} (h : OwnLE E w lo hi A n c ls) (hb : Below B w w') (hB : hi ≤ B) : OwnLE E w' lo hi A n c ls := by
  obtain ⟨h1, h2, h3, h4, h5, h6⟩ := h
  refine ⟨h1, ⟨h2.1, ?_⟩, h3, fun j hj => (h4 j hj).below hb hB, h5, h6⟩
  rcases h2.2 with hn | ⟨g, cap, cur, e, hl, hg, rest⟩
  · exact .inl hn
  · have hlt := h3 g (by rw [e]; rfl)
    exact .inr ⟨g, cap, cur, e, hl, (hb.block g (by omega)).trans hg, rest⟩
theorem OwnL.below {B : Nat} (h : OwnL w lo hi A n c ls) (hb : Below B w w') (hB : hi ≤ B) : OwnL w' lo hi A n c ls := by
  obtain ⟨E, h⟩ := h
  exact ⟨E, h.below hb hB⟩
theorem OwnL.drawn (h : OwnL w lo hi A n c ls) (hd : Drawn w w') : OwnL w' lo hi A n c ls := h.below (hd.below hi) (Nat.le_refl _)
theorem OwnL.cap (h : OwnL w lo hi A n c ls) : n ≤ c := by
  obtain ⟨E, _, h2, _⟩ := h
  rcases h2.2 with ⟨e, h0⟩ | ⟨g, cap, cur, e, _, _, hc, _⟩
  · omega
  · injection e with _ _ e3; omega
theorem OwnL.wide {lo' hi' : Nat} (h : OwnL w lo hi A n c ls) (h1 : lo' ≤ lo) (h2 : hi ≤ hi') : OwnL w lo' hi' A n c ls := by
  obtain ⟨E, e1, e2, e3, e4, e5, e6⟩ := h
  refine ⟨E, e1, ⟨e2.1, ?_⟩, fun k hk => Nat.lt_of_lt_of_le (e3 k hk) h2, fun j hj => (e4 j hj).wide h1 h2, e5, e6⟩
  rcases e2.2 with hn | ⟨g, cap, cur, e, hl, rest⟩
  · exact .inl hn
  · exact .inr ⟨g, cap, cur, e, Nat.le_trans h1 hl, rest⟩
theorem OwnL.within {lo' hi' : Nat} (h : OwnL w lo hi A n c ls) (hw : Within lo' hi' w w') (hd : hi ≤ lo' ∨ hi' ≤ lo) : OwnL w' lo hi A n c ls := by
  obtain ⟨E, h1, h2, h3, h4, h5, h6⟩ := h
  refine ⟨E, h1, ⟨h2.1, ?_⟩, h3, fun j hj => (h4 j hj).within hw hd, h5, h6⟩
  rcases h2.2 with hn | ⟨g, cap, cur, e, hl, hg, rest⟩
  · exact .inl hn
  · have hlt := h3 g (by rw [e]; rfl)
    have hsz := (h2.lt g (by rw [e]; rfl)).2
    exact .inr ⟨g, cap, cur, e, hl, (hw.2.2.2.2 g hsz (by omega)).trans hg, rest⟩
/-- A list more behind them. -/
theorem OwnLE.app (h : OwnLE E w lo hi A n c ls) {lo2 hi2 n2 c2 : Nat} {A2 : Option Addr} {xs : List Int} (hx : Own w lo2 hi2 A2 n2 c2 xs)
    (hlo : lo ≤ lo2) (hd : hi ≤ lo2) {H g cap : Nat} (hH : hi2 ≤ H) (hHh : hi ≤ H) (hHw : H ≤ w.heap.size)
    (ho : w'.ownsRow lo 22 1 (.slice (some ⟨g, 0, none⟩) (n + 1) cap) (n + 1) (heads n E ++ [.slice A2 n2 c2]))
    (hg : w.grownBy w' (Value.slice A n c).ownBlock) (hat : (Value.slice A n c).ownBlock = some g ∨ H ≤ g) (hlt : g < w'.heap.size) : OwnL w' lo w'.heap.size (some ⟨g, 0, none⟩) (n + 1) cap (ls ++ [xs]) := by
  obtain ⟨h1, h2, h3, h4, h5, h6⟩ := h
  have hsz := hg.size
  have eh : heads n E ++ [Value.slice A2 n2 c2] = heads (n + 1) (fun j => if j = n then (A2, n2, c2) else E j) := heads_app n E (A2, n2, c2)
  rw [eh] at ho
  have eE : ∀ j, j < n → (if j = n then ((A2, n2, c2) : Sv) else E j) = E j := fun j hj => by rw [if_neg (by omega)]
  have eN : (if n = n then ((A2, n2, c2) : Sv) else E n) = (A2, n2, c2) := if_pos rfl
  refine ⟨fun j => if j = n then (A2, n2, c2) else E j, by simp [h1], ho, ?_, ?_, ?_, ?_⟩
  · intro k hk
    simp [Value.ownBlock] at hk
    omega
  · intro j hj
    by_cases e : j = n
    · subst e
      have := @li_app_at ls xs
      rw [h1] at this
      rw [this]
      show Own w' lo w'.heap.size (if j = j then ((A2, n2, c2) : Sv) else E j).1 (if j = j then ((A2, n2, c2) : Sv) else E j).2.1 (if j = j then ((A2, n2, c2) : Sv) else E j).2.2 xs
      rw [eN]
      exact (hx.kept hg (fun b hb e => by have h7 := hx.lt b hb; have h8 := h3 b e; omega)).wide hlo (by omega)
    · rw [li_app_lt (by rw [h1]; omega)]
      show Own w' lo w'.heap.size (if j = n then ((A2, n2, c2) : Sv) else E j).1 (if j = n then ((A2, n2, c2) : Sv) else E j).2.1 (if j = n then ((A2, n2, c2) : Sv) else E j).2.2 _
      rw [eE j (by omega)]
      exact ((h4 j (by omega)).kept hg (fun b hb e => h5 j b (by omega) hb e)).wide (Nat.le_refl _) (by omega)
  · intro j b hj hb e2
    have hbg : b = g := by simp [Value.ownBlock] at e2; omega
    subst hbg
    have hb' : (sv (if j = n then ((A2, n2, c2) : Sv) else E j)).ownBlock = some b := hb
    by_cases e : j = n
    · subst e
      rw [eN] at hb'
      have h7 := hx.lt b hb'
      rcases hat with ha | ha
      · have := h3 b ha; omega
      · omega
    · rw [eE j (by omega)] at hb'
      rcases hat with ha | ha
      · exact h5 j b (by omega) hb' ha
      · have := (h4 j (by omega)).lt b hb'; omega
  · intro i j b hij hj hb hb2
    have hb' : (sv (if i = n then ((A2, n2, c2) : Sv) else E i)).ownBlock = some b := hb
    have hb2' : (sv (if j = n then ((A2, n2, c2) : Sv) else E j)).ownBlock = some b := hb2
    rw [eE i (by omega)] at hb'
    by_cases e : j = n
    · subst e
      rw [eN] at hb2'
      have h7 := hx.lt b hb2'
      have h8 := (h4 i (by omega)).lt b hb'
      omega
    · rw [eE j (by omega)] at hb2'
      exact h6 i j b hij (by omega) hb' hb2'
/-- One of the lists, at its place: it may be turned. -/
theorem OwnL.item {g : Nat} (h : OwnL w lo hi (some ⟨g, 0, none⟩) n c ls) {k : Nat} (hk : k < n) :
    ∃ A' n' c', w.cell? ⟨g, k, none⟩ = some (.slice A' n' c') ∧ (∀ j, w.frozen? ⟨g, j, none⟩ = false) ∧ Own w lo hi A' n' c' (li ls k) ∧
      ∀ w' ys, Own w' lo hi A' n' c' ys → w.grownBy w' (Value.slice A' n' c').ownBlock → OwnL w' lo hi (some ⟨g, 0, none⟩) n c (ls.set k ys) := by
  obtain ⟨E, hl, ho, hh, he, hne, hdd⟩ := h
  refine ⟨(E k).1, (E k).2.1, (E k).2.2, ?_, fun j => ho.frozenAt j, he k hk, ?_⟩
  · rw [ho.cellAt k (by omega), heads_get _ hk]; rfl
  · intro w' ys hy hg
    refine ⟨E, by simpa using hl, ho.kept hg ?_, hh, fun j hj => ?_, hne, hdd⟩
    · cases hb : (Value.slice (E k).1 (E k).2.1 (E k).2.2).ownBlock with
      | none => right; intro e; cases e
      | some b => right; intro e; exact hne k b hk hb e
    · rw [li_set (by omega)]
      by_cases e : j = k
      · subst e; rw [if_pos rfl]; exact hy
      · rw [if_neg e]
        refine (he j hj).kept hg (fun b hb e2 => ?_)
        rcases Nat.lt_or_gt_of_ne e with h | h
        · exact hdd j k b h hk hb e2
        · exact hdd k j b h hj e2 hb
end
/-- What a call that makes a slice of lists hands back. -/
def FreshL (w w' : World) (e : Ending) (ls : List (List Int)) : Prop :=
  ∃ A n c, e = .returned (.slice A n c) ∧ OwnL w' w.heap.size w'.heap.size A n c ls ∧ Below w.heap.size w w'
theorem FreshL.nil_ret {w w' : World} (h : Below w.heap.size w w') : FreshL w w' (.returned (.slice none 0 0)) [] := ⟨none, 0, 0, rfl, OwnL.nil _ _ _, h⟩
end Go.Proofs.Ytfaegfhbbkicgaa

/-
  Both ways to reduce rows lead to as many rows, at the same columns. Conditions: p is 2, 3, 5 or 7, numbers are rests.
-/


namespace Go.Proofs.Ytfaegfhbbkicgaa

/-- A row of a matrix written row by row. -/
def rowX (d : List Int) (n i : Nat) : List Int := (List.range n).map fun c => nth d (i * n + c)
def rowsL (d : List Int) (n R : Nat) : List (List Int) := (List.range R).map (rowX d n)
theorem rowX_len (d : List Int) (n i : Nat) : (rowX d n i).length = n := by simp [rowX]
theorem rowX_nth {d : List Int} {n i c : Nat} (h : c < n) : nth (rowX d n i) c = nth d (i * n + c) := nth_rangeMap _ h
theorem rowX_rg {p : Int} (hp : 0 < p) {d : List Int} (h : Rg p d) (n i : Nat) : Rg p (rowX d n i) := fun j => by
  by_cases hj : j < n
  · rw [rowX_nth hj]; exact h _
  · rw [nth_past (by rw [rowX_len]; omega)]; exact ⟨Int.le_refl _, hp⟩
theorem rowsL_len (d : List Int) (n R : Nat) : (rowsL d n R).length = R := by simp [rowsL]
theorem rowsL_li {d : List Int} {n R i : Nat} (h : i < R) : li (rowsL d n R) i = rowX d n i := by simp [li, rowsL, List.getD, h]
theorem rowsL_ok {p : Int} (hp : 0 < p) {d : List Int} (h : Rg p d) (n R : Nat) : ∀ x, x ∈ rowsL d n R → x.length = n ∧ Rg p x := fun x hx => by
  obtain ⟨i, _, rfl⟩ := List.mem_map.1 hx
  exact ⟨rowX_len .., rowX_rg hp h n i⟩
/-- The same rows as lists and as functions have the same sums of multiples. -/
theorem sp_lists {p : Int} {n : Nat} {rows : List (List Int)} {R : Nat} {M : Nat → Nat → Int} (hl : rows.length = R) (h : ∀ i c, i < R → c < n → nth (li rows i) c = M i c) (v : Nat → Int) :
    Sp p n (rows.map nth) v ↔ Sp p n (rowsM R M) v := by
  refine Sp.same (fun e he => ?_) (fun e he => ?_) v
  · obtain ⟨x, hx, rfl⟩ := List.mem_map.1 he
    obtain ⟨i, hi, rfl⟩ := List.mem_iff_getElem.1 hx
    rw [← li_get hi]
    exact (rowsM_sp (M := M) (i := i) (by omega)).of_eq fun c hc => (h i c (by omega) hc).symm
  · obtain ⟨i, hi, rfl⟩ := rowsM_mem.1 he
    have hm : Sp p n (rows.map nth) (nth (li rows i)) := Sp.mem (List.mem_map.2 ⟨li rows i, by rw [li_get (by omega)]; exact List.getElem_mem _, rfl⟩)
    exact hm.of_eq fun c hc => h i c hi hc
def rnkL (p : Int) (rows : List (List Int)) : Nat := (echel p rows).length
section
variable {p : Int} {n R : Nat} {rows : List (List Int)} {M0 M : Nat → Nat → Int} {ps : List Int} {j : Nat}
theorem red_same (hp : P7 p) (hr : ∀ x, x ∈ rows → x.length = n ∧ Rg p x) (hl : rows.length = R) (h0 : ∀ i c, i < R → c < n → nth (li rows i) c = M0 i c) (h : RedI p n R M0 M ps j) (hend : j = n ∨ ps.length = R) (v : Nat → Int) :
    Sp p n ((prs (echel p rows)).map (·.1)) v ↔ Sp p n ((prM M ps).map (·.1)) v := by
  rw [prs_vec, (echel_ok hp hr).2 v, sp_lists hl h0 v, h.done hend v]
theorem rank_same (hp : P7 p) (hr : ∀ x, x ∈ rows → x.length = n ∧ Rg p x) (hl : rows.length = R) (h0 : ∀ i c, i < R → c < n → nth (li rows i) c = M0 i c) (h : RedI p n R M0 M ps j) (hj : j ≤ n) (hend : j = n ∨ ps.length = R) :
    ps.length = rnkL p rows := by
  have h1 := Ech.same_len hp.two (echel_ok hp hr).1.2 (h.ech hj) (red_same hp hr hl h0 h hend)
  have h2 : (prs (echel p rows)).length = rnkL p rows := by simp [prs, rnkL]
  have h3 : (prM M ps).length = ps.length := by simp [prM]
  omega
end
theorem foldl_addR_len (p : Int) : ∀ (rows : List (List Int)) (E : List (List Int × Int)), (rows.foldl (addR p) E).length ≤ E.length + rows.length
  | [], _ => Nat.le_refl _
  | x :: rows, E => by
    have h1 := foldl_addR_len p rows (addR p E x)
    have h2 : (addR p E x).length ≤ E.length + 1 := by
      unfold addR
      split
      · omega
      · simp
    simp only [List.foldl_cons, List.length_cons]
    omega
theorem rnkL_le (p : Int) (rows : List (List Int)) : rnkL p rows ≤ rows.length := by
  have := foldl_addR_len p rows []
  simpa [rnkL, echel] using this
end Go.Proofs.Ytfaegfhbbkicgaa

/-
  Rows reduced among themselves: the program's way, from the last column to the first, and that both ways end at the same rows. Conditions: p is 2, 3, 5 or 7.
-/

namespace Go.Proofs.Ytfaegfhbbkicgaa

theorem eq_of_dvd {p a b : Int} (ha : 0 ≤ a ∧ a < p) (hb : 0 ≤ b ∧ b < p) (h : p ∣ a - b) : a = b := by
  by_cases h1 : a - b = 0
  · omega
  · rcases Int.lt_or_gt_of_ne h1 with h2 | h2
    · have h3 : p ∣ b - a := by
        have := Int.dvd_neg.2 h
        have e : -(a - b) = b - a := by omega
        rwa [e] at this
      have := Int.le_of_dvd (by omega) h3; omega
    · have := Int.le_of_dvd (by omega) h; omega
/-- The first place of a number in a list. -/
def ixN (xs : List Int) (v : Int) : Nat := (xs.takeWhile (fun y => decide (y ≠ v))).length
theorem ixN_le (xs : List Int) (v : Int) : ixN xs v ≤ xs.length := (List.takeWhile_sublist _).length_le
theorem ixN_is {v : Int} : ∀ (xs : List Int) (k : Nat), k ≤ xs.length → (∀ j, j < k → nth xs j ≠ v) → (k = xs.length ∨ nth xs k = v) → ixN xs v = k
  | [], k, hk, _, _ => by
    have : k = 0 := by simpa using hk
    subst this; rfl
  | y :: xs, 0, _, _, h => by
    rcases h with h | h
    · simp at h
    · have hy : y = v := h
      simp [ixN, List.takeWhile, hy]
  | y :: xs, k + 1, hk, hall, h => by
    have hy : y ≠ v := hall 0 (by omega)
    have ih := ixN_is xs k (by simpa using hk) (fun j hj => hall (j + 1) (by omega)) (by
      rcases h with h | h
      · left; simpa using h
      · right; exact h)
    have e : ixN (y :: xs) v = ixN xs v + 1 := by simp [ixN, List.takeWhile, hy]
    rw [e, ih]
theorem ixN_at {v : Int} : ∀ (xs : List Int), ixN xs v < xs.length → nth xs (ixN xs v) = v
  | [], h => by simp at h
  | y :: xs, h => by
    by_cases hy : y = v
    · have e : ixN (y :: xs) v = 0 := by simp [ixN, List.takeWhile, hy]
      rw [e]; exact hy
    · have e : ixN (y :: xs) v = ixN xs v + 1 := by simp [ixN, List.takeWhile, hy]
      rw [e] at h ⊢
      exact ixN_at xs (by simpa using h)
theorem ixN_mem {v : Int} : ∀ (xs : List Int), v ∈ xs ↔ ixN xs v < xs.length
  | [] => by simp [ixN]
  | y :: xs => by
    by_cases hy : y = v
    · have e : ixN (y :: xs) v = 0 := by simp [ixN, List.takeWhile, hy]
      rw [e]; simp [hy]
    · have e : ixN (y :: xs) v = ixN xs v + 1 := by simp [ixN, List.takeWhile, hy]
      rw [e, List.mem_cons, ixN_mem xs, List.length_cons]
      constructor
      · rintro (h | h)
        · exact absurd h.symm hy
        · omega
      · intro h; right; omega
/-- The rows, from that with the last column on, as far as t columns. -/
def dscR (E : List (List Int × Int)) (n : Nat) : Nat → List (List Int)
  | 0 => []
  | t + 1 => if ixN (E.map (·.2)) ((n - 1 - t : Nat) : Int) < E.length then dscR E n t ++ [li (E.map (·.1)) (ixN (E.map (·.2)) ((n - 1 - t : Nat) : Int))] else dscR E n t
theorem dscR_hit {E : List (List Int × Int)} {n t : Nat} (h : ixN (E.map (·.2)) ((n - 1 - t : Nat) : Int) < E.length) : dscR E n (t + 1) = dscR E n t ++ [li (E.map (·.1)) (ixN (E.map (·.2)) ((n - 1 - t : Nat) : Int))] := if_pos h
theorem dscR_miss {E : List (List Int × Int)} {n t : Nat} (h : ¬ ixN (E.map (·.2)) ((n - 1 - t : Nat) : Int) < E.length) : dscR E n (t + 1) = dscR E n t := if_neg h
theorem addR_lead {p : Int} {n : Nat} (hp : P7 p) {E : List (List Int × Int)} (h : EOk p n E) {x : List Int} {c : Nat} (hl : x.length = n) (hx : Rg p x) (hc : c < n) (h1 : nth x c ≠ 0) (hb : ∀ i, i < c → nth x i = 0) (hgt : ∀ e, e ∈ E → (c : Int) < e.2) :
    ∃ y, addR p E x = E ++ [(y, (c : Int))] := by
  have hp2 := hp.two
  have hsame : ∀ i, i ≤ c → nth (redE p E x) i = nth x i := fun i hi => by
    have hk := redE_keep (p := p) (c := i) E (x := x) (by omega) fun e he => by
      have h3 := (h.2.at_ (x := (nth e.1, e.2.toNat)) (List.mem_map.2 ⟨e, he, rfl⟩)).2.2
      have := hgt e he
      exact h3 i (by show i < e.2.toNat; omega)
    exact eq_of_dvd (redE_rg (by omega) E hx i) (hx i) hk
  have hld : ldN (redE p E x) = c := ldN_is _ c (by rw [redE_len]; omega) (fun j hj => by rw [hsame j (by omega)]; exact hb j hj) (.inr (by rw [hsame c (Nat.le_refl _)]; exact h1))
  refine ⟨nrm p (redE p E x), ?_⟩
  unfold addR
  rw [hld, if_neg (by omega)]
theorem Ech.pair {p : Int} {n : Nat} : ∀ {R : List ((Nat → Int) × Nat)}, Ech p n R → R.Pairwise fun a b => p ∣ b.1 a.2
  | [], _ => List.Pairwise.nil
  | _ :: _, h => List.Pairwise.cons (fun x hx => h.2.2.2.1 x hx) (Ech.pair h.2.2.2.2)
/-- What the rows from the last column on obey. -/
structure DscI (p : Int) (n : Nat) (E : List (List Int × Int)) (t : Nat) : Prop where
  ok : EOk p n (echel p (dscR E n t))
  lo : ∀ e, e ∈ echel p (dscR E n t) → ((n - t : Nat) : Int) ≤ e.2
  desc : ((echel p (dscR E n t)).map (·.2)).Pairwise fun a b => b < a
  mem : ∀ c : Int, c ∈ (echel p (dscR E n t)).map (·.2) ↔ c ∈ E.map (·.2) ∧ ((n - t : Nat) : Int) ≤ c
  rows : ∀ x, x ∈ dscR E n t → ∃ e, e ∈ E ∧ x = e.1
  has : ∀ e, e ∈ E → ((n - t : Nat) : Int) ≤ e.2 → e.1 ∈ dscR E n t
theorem EOk.row_of {p : Int} {n : Nat} (hp : P7 p) {E : List (List Int × Int)} (h : EOk p n E) {e : List Int × Int} (he : e ∈ E) : li (E.map (·.1)) (ixN (E.map (·.2)) e.2) = e.1 := by
  have hm : e.2 ∈ E.map (·.2) := List.mem_map.2 ⟨e, he, rfl⟩
  have hlt := (ixN_mem _).1 hm
  have hat := ixN_at _ hlt
  simp only [List.length_map] at hlt
  obtain ⟨i, hi, hei⟩ := List.mem_iff_getElem.1 he
  have hnd := List.pairwise_iff_getElem.1 (h.2.nodup hp.two)
  have hcol : ∀ k (hk : k < E.length), ((prs E).map (·.2))[k]'(by simpa [prs] using hk) = E[k].2.toNat := fun k hk => by simp [prs]
  have hix : (E[ixN (E.map (·.2)) e.2]'hlt).2 = e.2 := by
    rw [nth_get (by simpa using hlt)] at hat
    simpa using hat
  have hj : ixN (E.map (·.2)) e.2 = i := by
    rcases Nat.lt_trichotomy (ixN (E.map (·.2)) e.2) i with h1 | h1 | h1
    · have := hnd _ _ (by simpa [prs] using hlt) (by simpa [prs] using hi) h1
      rw [hcol _ hlt, hcol _ hi, hix, hei] at this
      exact absurd rfl this
    · exact h1
    · have := hnd _ _ (by simpa [prs] using hi) (by simpa [prs] using hlt) h1
      rw [hcol _ hlt, hcol _ hi, hix, hei] at this
      exact absurd rfl this
  rw [hj, li_get (by simpa using hi)]
  simp [hei]
theorem echel_snoc (p : Int) (rows : List (List Int)) (x : List Int) : echel p (rows ++ [x]) = addR p (echel p rows) x := by simp [echel, List.foldl_append]
theorem DscI.all {p : Int} {n : Nat} (hp : P7 p) {E : List (List Int × Int)} (h : EOk p n E) : ∀ t, t ≤ n → DscI p n E t
  | 0, _ => ⟨EOk.nil p n, fun e he => absurd he (List.not_mem_nil), List.Pairwise.nil, fun c => by
      constructor
      · intro hc; exact absurd hc (List.not_mem_nil)
      · rintro ⟨h1, h2⟩
        obtain ⟨e, he, rfl⟩ := List.mem_map.1 h1
        have := (h.1 e he).2.2.2; omega, fun x hx => absurd hx (List.not_mem_nil), fun e he h2 => by have := (h.1 e he).2.2.2; omega⟩
  | t + 1, ht => by
    have ih := DscI.all hp h t (by omega)
    have hp2 := hp.two
    by_cases hix : ixN (E.map (·.2)) ((n - 1 - t : Nat) : Int) < E.length
    · have hm : ((n - 1 - t : Nat) : Int) ∈ E.map (·.2) := (ixN_mem _).2 (by simpa using hix)
      obtain ⟨e, he, hec⟩ := List.mem_map.1 hm
      have hec' : e.2 = ((n - 1 - t : Nat) : Int) := hec
      have hrow := h.row_of hp he
      rw [hec'] at hrow
      have e1 : dscR E n (t + 1) = dscR E n t ++ [e.1] := by
        rw [dscR_hit hix, hrow]
      obtain ⟨hel, her, he0, hen⟩ := h.1 e he
      obtain ⟨ha1, ha2, ha3⟩ := h.2.at_ (x := (nth e.1, e.2.toNat)) (List.mem_map.2 ⟨e, he, rfl⟩)
      have hct : e.2.toNat = n - 1 - t := by omega
      simp only [hct] at ha1 ha2 ha3
      obtain ⟨y, hy⟩ := addR_lead hp ih.ok (c := n - 1 - t) hel her (by omega) (fun h0 => one_not hp2 ha2 (by rw [h0]; exact Int.dvd_zero _)) (fun i hi => (dvd_iff0 (her i)).1 (ha3 i hi)) (fun d hd => by have := ih.lo d hd; omega)
      have e2 : echel p (dscR E n (t + 1)) = echel p (dscR E n t) ++ [(y, ((n - 1 - t : Nat) : Int))] := by rw [e1, echel_snoc, hy]
      refine ⟨?_, ?_, ?_, ?_, ?_, ?_⟩
      · rw [e1, echel_snoc]; exact (addR_ok hp ih.ok hel her).1
      · rw [e2]
        intro d hd
        rcases List.mem_append.1 hd with hd | hd
        · have := ih.lo d hd; omega
        · rw [List.mem_singleton] at hd; subst hd; show _ ≤ ((n - 1 - t : Nat) : Int); omega
      · rw [e2, List.map_append]
        refine List.pairwise_append.2 ⟨ih.desc, List.pairwise_singleton _ _, fun a ha b hb => ?_⟩
        obtain ⟨d, hd, rfl⟩ := List.mem_map.1 ha
        simp at hb
        subst hb
        have := ih.lo d hd
        show ((n - 1 - t : Nat) : Int) < d.2
        omega
      · intro c
        rw [e2, List.map_append, List.mem_append, ih.mem c]
        simp only [List.map_cons, List.map_nil, List.mem_singleton]
        constructor
        · rintro (⟨h1, h2⟩ | h1)
          · exact ⟨h1, by omega⟩
          · rw [h1]; exact ⟨hm, by omega⟩
        · rintro ⟨h1, h2⟩
          by_cases hc : c = ((n - 1 - t : Nat) : Int)
          · right; exact hc
          · left; exact ⟨h1, by omega⟩
      · rw [e1]
        intro x hx
        rcases List.mem_append.1 hx with hx | hx
        · exact ih.rows x hx
        · rw [List.mem_singleton] at hx; exact ⟨e, he, hx⟩
      · rw [e1]
        intro d hd hdc
        by_cases hc : d.2 = ((n - 1 - t : Nat) : Int)
        · have h5 := h.row_of hp hd
          rw [hc, hrow] at h5
          rw [← h5]; exact List.mem_append_right _ (List.mem_singleton.2 rfl)
        · exact List.mem_append_left _ (ih.has d hd (by omega))
    · have e1 : dscR E n (t + 1) = dscR E n t := dscR_miss hix
      have hno : ∀ e, e ∈ E → e.2 ≠ ((n - 1 - t : Nat) : Int) := fun e he hc => hix (by
        have := (ixN_mem (v := ((n - 1 - t : Nat) : Int)) (E.map (·.2))).1 (by rw [← hc]; exact List.mem_map.2 ⟨e, he, rfl⟩)
        simpa using this)
      refine ⟨by rw [e1]; exact ih.ok, fun e he => by rw [e1] at he; have := ih.lo e he; omega, by rw [e1]; exact ih.desc, fun c => ?_, by rw [e1]; exact ih.rows, fun e he hc => by
        rw [e1]
        have := hno e he
        exact ih.has e he (by omega)⟩
      rw [e1, ih.mem c]
      constructor
      · rintro ⟨h1, h2⟩; exact ⟨h1, by omega⟩
      · rintro ⟨h1, h2⟩
        obtain ⟨e, he, rfl⟩ := List.mem_map.1 h1
        have h5 := hno e he
        have h6 : ((n - (t + 1) : Nat) : Int) ≤ e.2 := h2
        exact ⟨h1, by show _ ≤ e.2; omega⟩
theorem asc_uniq : ∀ (l m : List Int), l.Pairwise (· < ·) → m.Pairwise (· < ·) → (∀ x, x ∈ l ↔ x ∈ m) → l = m
  | [], [], _, _, _ => rfl
  | [], b :: m, _, _, h => absurd ((h b).2 (List.mem_cons_self ..)) (List.not_mem_nil)
  | a :: l, [], _, _, h => absurd ((h a).1 (List.mem_cons_self ..)) (List.not_mem_nil)
  | a :: l, b :: m, hl, hm, h => by
    obtain ⟨h1, h2⟩ := List.pairwise_cons.1 hl
    obtain ⟨h3, h4⟩ := List.pairwise_cons.1 hm
    have hab : a = b := by
      rcases List.mem_cons.1 ((h a).1 (List.mem_cons_self ..)) with e | e
      · exact e
      · rcases List.mem_cons.1 ((h b).2 (List.mem_cons_self ..)) with e' | e'
        · exact e'.symm
        · have := h3 a e; have := h1 b e'; omega
    subst hab
    rw [asc_uniq l m h2 h4 fun x => by
      constructor
      · intro hx
        rcases List.mem_cons.1 ((h x).1 (List.mem_cons_of_mem _ hx)) with e | e
        · have := h1 x hx; omega
        · exact e
      · intro hx
        rcases List.mem_cons.1 ((h x).2 (List.mem_cons_of_mem _ hx)) with e | e
        · have := h3 x hx; omega
        · exact e]
/-- The reduced rows, the program's way. -/
def redD (p : Int) (n : Nat) (rows : List (List Int)) : List (List Int × Int) := echel p (dscR (echel p rows) n n)
section
variable {p : Int} {n R : Nat} {rows : List (List Int)} {M0 M : Nat → Nat → Int} {ps : List Int} {j : Nat}
theorem red_rows (hp : P7 p) (hr : ∀ x, x ∈ rows → x.length = n ∧ Rg p x) (hl : rows.length = R) (h0 : ∀ i c, i < R → c < n → nth (li rows i) c = M0 i c) (h : RedI p n R M0 M ps j) (hj : j ≤ n) (hend : j = n ∨ ps.length = R) :
    (redD p n rows).length = ps.length ∧ (((redD p n rows).map (·.2)).reverse = ps) ∧ ∀ i c, i < ps.length → c < n → nth (li ((redD p n rows).map (·.1)).reverse i) c = M i c := by
  have hp2 := hp.two
  have hE := echel_ok hp hr
  have hD := DscI.all hp hE.1 n (Nat.le_refl _)
  obtain ⟨E, hEe⟩ : ∃ E, E = echel p rows := ⟨_, rfl⟩
  unfold redD
  rw [← hEe] at hE hD ⊢
  obtain ⟨D, hDe⟩ : ∃ D, D = echel p (dscR E n n) := ⟨_, rfl⟩
  have hdok := hD.ok
  have hdesc := hD.desc
  have hmem := hD.mem
  have hrows := hD.rows
  have hhas := hD.has
  rw [← hDe] at hdok hdesc hmem ⊢
  have hspD : ∀ v, Sp p n (vec D) v ↔ Sp p n (vec E) v := fun v => by
    have h1 := (echel_ok (p := p) (n := n) hp (rows := dscR E n n) fun x hx => by
      obtain ⟨e, he, rfl⟩ := hrows x hx
      exact ⟨(hE.1.1 e he).1, (hE.1.1 e he).2.1⟩).2 v
    rw [← hDe] at h1
    rw [h1]
    refine Sp.same (fun q hq => ?_) (fun q hq => ?_) v
    · obtain ⟨x, hx, rfl⟩ := List.mem_map.1 hq
      obtain ⟨e, he, rfl⟩ := hrows x hx
      exact Sp.mem (List.mem_map.2 ⟨e, he, rfl⟩)
    · obtain ⟨e, he, rfl⟩ := List.mem_map.1 hq
      exact Sp.mem (List.mem_map.2 ⟨e.1, hhas e he (by have := (hE.1.1 e he).2.2.1; omega), rfl⟩)
  have hspM : ∀ v, Sp p n (vec E) v ↔ Sp p n (rowsM ps.length M) v := fun v => by
    have h1 := red_same hp hr hl h0 h hend v
    rw [← hEe, prs_vec, prM_fst] at h1
    exact h1
  have hcols : ∀ c : Int, c ∈ D.map (·.2) ↔ c ∈ ps := fun c => by
    have hs := Ech.same_cols hp2 hE.1.2 (h.ech hj) (fun v => by rw [prs_vec, prM_fst]; exact hspM v)
    rw [hmem c]
    constructor
    · rintro ⟨h1, _⟩
      obtain ⟨e, he, rfl⟩ := List.mem_map.1 h1
      have h2 := (hs e.2.toNat).1 (List.mem_map.2 ⟨(nth e.1, e.2.toNat), List.mem_map.2 ⟨e, he, rfl⟩, rfl⟩)
      obtain ⟨x, hx, hx2⟩ := List.mem_map.1 h2
      obtain ⟨i, hi, rfl⟩ := prM_mem.1 hx
      have hx3 : (nth ps i).toNat = e.2.toNat := hx2
      have h3 := h.col i hi
      have h4 := (hE.1.1 e he).2.2.1
      have h5 : nth ps i = e.2 := by omega
      rw [← h5, nth_get hi]; exact List.getElem_mem hi
    · intro hc
      obtain ⟨i, hi, hie⟩ := List.mem_iff_getElem.1 hc
      rw [← nth_get hi] at hie
      have h3 := h.col i hi
      have h2 := (hs (nth ps i).toNat).2 (List.mem_map.2 ⟨_, prM_mem.2 ⟨i, hi, rfl⟩, rfl⟩)
      obtain ⟨x, hx, hx2⟩ := List.mem_map.1 h2
      obtain ⟨e, he, rfl⟩ := List.mem_map.1 hx
      have hx3 : e.2.toNat = (nth ps i).toNat := hx2
      have h4 := (hE.1.1 e he).2.2.1
      exact ⟨List.mem_map.2 ⟨e, he, by show e.2 = c; omega⟩, by omega⟩
  have hasc : ps.Pairwise (· < ·) := by
    rw [List.pairwise_iff_getElem]
    intro a b ha hb hab
    have := h.asc a b hab hb
    rw [nth_get ha, nth_get hb] at this
    exact this
  have hrev : (D.map (·.2)).reverse = ps := asc_uniq _ _ (List.pairwise_reverse.2 hdesc) hasc fun x => by rw [List.mem_reverse]; exact hcols x
  have hlen : D.length = ps.length := by rw [← hrev]; simp
  refine ⟨hlen, hrev, fun i c hi hc => ?_⟩
  have hiD : D.length - 1 - i < D.length := by omega
  have hx : li (D.map (·.1)).reverse i = D[D.length - 1 - i].1 := by
    rw [li_get (by simp; omega), List.getElem_reverse]
    simp
  have hxc : D[D.length - 1 - i].2 = nth ps i := by
    rw [nth_get hi]
    have h5 : ps[i] = ((D.map (·.2)).reverse)[i]'(by simp; omega) := by simp [hrev]
    rw [h5, List.getElem_reverse]
    simp
  rw [hx]
  have hxm : D[D.length - 1 - i] ∈ D := List.getElem_mem hiD
  have hin := hdok.1 _ hxm
  have hcol := h.col i hi
  have huniq := Ech.uniq hp2 hdok.2 (u := M i) (v := nth D[D.length - 1 - i].1) (by rw [prs_vec, hspD, hspM]; exact rowsM_sp hi) (by rw [prs_vec]; exact Sp.mem (List.mem_map.2 ⟨_, hxm, rfl⟩)) (fun y hy => by
    obtain ⟨e, he, rfl⟩ := List.mem_map.1 hy
    obtain ⟨a, ha, hae⟩ := List.mem_iff_getElem.1 he
    have hec := (hdok.1 e he).2.2
    show p ∣ M i e.2.toNat - nth D[D.length - 1 - i].1 e.2.toNat
    by_cases hsame : a = D.length - 1 - i
    · subst hsame
      rw [hae] at hxc ⊢
      have h6 := (hdok.2.at_ (x := (nth e.1, e.2.toNat)) (List.mem_map.2 ⟨e, he, rfl⟩)).2.1
      have h7 : p ∣ nth e.1 e.2.toNat - 1 := h6
      rw [hxc, h.one i hi]
      rw [hxc] at h7
      have e8 : 1 - nth e.1 (nth ps i).toNat = -(nth e.1 (nth ps i).toNat - 1) := by omega
      rw [e8]; exact Int.dvd_neg.2 h7
    · have hM0 : M i e.2.toNat = 0 := by
        have hmem2 : e.2 ∈ ps := (hcols e.2).1 (List.mem_map.2 ⟨e, he, rfl⟩)
        obtain ⟨i', hi', hie'⟩ := List.mem_iff_getElem.1 hmem2
        rw [← nth_get hi'] at hie'
        have hne : i ≠ i' := fun e9 => by
          subst e9
          have hd2 := List.pairwise_iff_getElem.1 hdesc
          rcases Nat.lt_or_gt_of_ne hsame with h8 | h8
          · have := hd2 a (D.length - 1 - i) (by simpa using ha) (by simpa using hiD) h8
            simp only [List.getElem_map] at this
            rw [hxc, hae, hie'] at this; omega
          · have := hd2 (D.length - 1 - i) a (by simpa using hiD) (by simpa using ha) h8
            simp only [List.getElem_map] at this
            rw [hxc, hae, hie'] at this; omega
        rw [← hie']
        exact h.oth i' i hi' (by have := h.le; omega) hne
      have hv0 : p ∣ nth D[D.length - 1 - i].1 e.2.toNat := by
        rcases Nat.lt_or_gt_of_ne hsame with h8 | h8
        · have h9 := List.pairwise_iff_getElem.1 hdok.2.pair a (D.length - 1 - i) (by simpa [prs] using ha) (by simpa [prs] using hiD) h8
          simp only [prs, List.getElem_map] at h9
          rw [hae] at h9; exact h9
        · have hd2 := List.pairwise_iff_getElem.1 hdesc (D.length - 1 - i) a (by simpa using hiD) (by simpa using ha) h8
          simp only [List.getElem_map] at hd2
          rw [hae] at hd2
          have h9 := (hdok.2.at_ (x := (nth D[D.length - 1 - i].1, D[D.length - 1 - i].2.toNat)) (List.mem_map.2 ⟨_, hxm, rfl⟩)).2.2
          exact h9 e.2.toNat (by show e.2.toNat < D[D.length - 1 - i].2.toNat; omega)
      rw [hM0]
      have e8 : 0 - nth D[D.length - 1 - i].1 e.2.toNat = -(nth D[D.length - 1 - i].1 e.2.toNat) := by omega
      rw [e8]; exact Int.dvd_neg.2 hv0) c hc
  exact (eq_of_dvd (h.rg i c (by have := h.le; omega) hc) (hin.2.1 c) huniq).symm
end
end Go.Proofs.Ytfaegfhbbkicgaa

/-
  Copying a slice of numbers into an array. Conditions: the slice is no longer than the array.
-/


namespace Go.Proofs.Ytfaegfhbbkicgaa
open Go.RowKit

/-- A list with zeros behind it. -/
def padN (N : Nat) (xs : List Int) : List Int := xs ++ List.replicate (N - xs.length) 0
theorem padN_len {N : Nat} {xs : List Int} (h : xs.length ≤ N) : (padN N xs).length = N := by simp [padN]; omega
theorem padN_nth (N : Nat) (xs : List Int) (k : Nat) : nth (padN N xs) k = nth xs k := by
  unfold padN nth
  rw [List.getD_eq_getElem?_getD, List.getD_eq_getElem?_getD]
  by_cases h : k < xs.length
  · rw [List.getElem?_append_left h]
  · rw [List.getElem?_append_right (by omega), List.getElem?_eq_none (l := xs) (by omega), List.getElem?_replicate]
    split <;> rfl
theorem nth_out {xs : List Int} {k : Nat} (h : xs.length ≤ k) : nth xs k = 0 := by
  unfold nth
  rw [List.getD_eq_getElem?_getD, List.getElem?_eq_none h]; rfl
theorem Try.infoIntA : (Try.prog.info? 3).map (·.size) = some 1 := by kernel_rfl
/-- 'copy(a[:], s)' where the array a holds zeros. -/
theorem wpList_copy_arr {ops : Array Oper} {rest : List Oper} {o : Oper} {a : Act} {w : World} {Q : Exit → Act → World → Prop} (hgd : o.guard = none) (d s : Operand)
    (ho : o.op = .call { callee := .builtin .copy, args := #[d, s], argTypes := #[22, 22] }) (g N : Nat) (A : Option Addr) (n c : Nat) (hd : a.eval d = .slice (some ⟨g, 0, none⟩) N N) (hs : a.eval s = .slice A n c)
    (t : TypeId) (xs : List Int) (hblk : Blk w g t ((List.replicate N (0 : Int)).map (Value.int .i64)).toArray) (hsi : SI w A n xs) (hle : n ≤ N)
    (hK : ∀ w', Blk w' g t ((padN N xs).map (Value.int .i64)).toArray → w.grownBy w' (some g) → wpList Try.prog ops Q rest (a.put o.dst (goInt n)) w') : wpList Try.prog ops Q (o :: rest) a w := by
  have hl := hsi.1
  by_cases h0 : n = 0
  · subst h0
    obtain rfl : xs = [] := List.eq_nil_of_length_eq_zero hl
    exact Go.wpList_copy_nothing hgd d s 22 22 ho 3 Try.underlying22 Try.infoIntA (some ⟨g, 0, none⟩) A N N 0 c hd hs (by simp) (hK w (by simpa [padN] using hblk) (World.grownBy.refl _ _))
  · obtain ⟨b, off, rfl, hb, hc⟩ := hsi.2 (by omega)
    have hE : (((List.replicate N (0 : Int)).map (Value.int .i64)).toArray.toList.take 0 ++ (xs.map (Value.int .i64) ++ ((List.replicate N (0 : Int)).map (Value.int .i64)).toArray.toList.drop (0 + (xs.map (Value.int .i64)).length))).toArray = ((padN N xs).map (Value.int .i64)).toArray := by
      simp [padN, List.drop_replicate]
    refine Go.wpList_copy_own hgd d s 22 22 ho 3 Try.underlying22 Try.infoIntA g 0 N N ⟨b, off, none⟩ n c hd hs _ t hblk (xs.map (Value.int .i64)) (by simp [hl]; exact (Nat.min_eq_left hle).symm) ?_ (by simp [hl]; omega) (ints_oneCell _ _) ?_
    · intro j v hj
      have hjl : j < xs.length := by
        rcases Nat.lt_or_ge j xs.length with h | h
        · exact h
        · rw [List.getElem?_eq_none (by simpa using h)] at hj; cases hj
      rw [List.getElem?_map, nth_get? hjl] at hj
      rw [add_pt, hc j (by omega)]
      exact hj
    · rw [hE]
      have hk := hK (w.setRow g ((padN N xs).map (Value.int .i64)).toArray) (hblk.row _) (grownBy_setRow w g _)
      simpa [hl] using hk
end Go.Proofs.Ytfaegfhbbkicgaa

/-
  What a shape is: the tests of both sides. Conditions: the length is at most 2^40.
-/

namespace Go.Proofs.Ytfaegfhbbkicgaa
open Go.RowKit

/-- What a place of a shape may be at most: what stands before it, 16 at the first one. -/
def prevS (xs : List Int) : Nat → Int
  | 0 => 16
  | k + 1 => nth xs k
/-- Is place k of a list one that a shape may have. -/
def shapeAt (xs : List Int) (k : Nat) : Prop := 1 ≤ nth xs k ∧ nth xs k ≤ prevS xs k
instance (xs : List Int) (k : Nat) : Decidable (shapeAt xs k) := by unfold shapeAt; infer_instance
def isShapeP (xs : List Int) : Prop := xs.length ≤ 16 ∧ ∀ k, k < xs.length → shapeAt xs k
def isShapeB (xs : List Int) : Bool := decide (xs.length ≤ 16) && (List.range xs.length).all fun k => decide (shapeAt xs k)
theorem isShapeB_iff (xs : List Int) : isShapeB xs = true ↔ isShapeP xs := by simp [isShapeB, isShapeP]
theorem isShapeB_P {xs : List Int} (h : isShapeB xs = true) : isShapeP xs := (isShapeB_iff xs).1 h
theorem isShapeB_true {xs : List Int} (h : isShapeP xs) : isShapeB xs = true := (isShapeB_iff xs).2 h
theorem isShapeB_false {xs : List Int} (h : ¬ isShapeP xs) : isShapeB xs = false := by
  cases hb : isShapeB xs with
  | false => rfl
  | true => exact absurd (isShapeB_P hb) h
theorem prevS_le {xs : List Int} : ∀ {k : Nat}, (∀ j, j < k → shapeAt xs j) → prevS xs k ≤ 16
  | 0, _ => Int.le_refl _
  | k + 1, h => Int.le_trans (h k (by omega)).2 (prevS_le fun j hj => h j (by omega))

set_option maxHeartbeats 800000 in
theorem specIsShape_any (A : Option Addr) (n c : Nat) (xs : List Int) (w : World) (hs : SI w A n xs) (hn : n ≤ 1099511627776) :
    Calls Try.prog 96 #[.slice A n c] w fun e w' => e = .returned (.bool (isShapeB xs)) ∧ Drawn w w' := by
  have HL := Lib.hid hs.1
  by_cases h16 : n ≤ 16
  · go_enter Try.func96, Try.ntmps96
    go_wp2
    go_loopw [3] (fun i wr => ∃ k : Nat, k ≤ n ∧ i = .int .i64 k ∧ Drawn w wr ∧ ∀ j, j < k → shapeAt xs j)
      (fun i _ => n - (intOf i).toNat)
    case atStart => exact ⟨0, Nat.zero_le _, rfl, Drawn.refl _, fun j hj => absurd hj (by omega)⟩
    case round =>
      obtain ⟨k, hk, rfl, hD, hall⟩ := hrel
      have HA := Lib.hid hall
      have HD := Lib.hid hD
      have hs := hD.si hs
      clear hall hD
      by_cases hlt : k < n
      · obtain ⟨b, o, e1, hb, hc⟩ := hs.at_ (by omega)
        subst e1
        have hc1 := hc k hlt
        obtain ⟨x, hx⟩ : ∃ x, x = nth xs k := ⟨_, rfl⟩
        rw [← hx] at hc1
        have HX := Lib.hid hx
        have hlI : (k : Int) < (n : Int) := by omega
        by_cases hr : 1 ≤ x ∧ x ≤ 16
        · obtain ⟨hx0, hx1⟩ := hr
          cases k with
          | zero =>
            have HG : Hid (shapeAt xs 0) := Lib.hid (show 1 ≤ nth xs 0 ∧ nth xs 0 ≤ 16 by omega)
            rw [Nat.add_zero] at hc1
            clear hc hs hx
            go_wp2_with fail
            go_quiet ((go_at_call 82; exact Calls.quiet_of (l1In_yes hx0 hx1 _)))
            go_wp2
            go_roundw
            case rel => exact ⟨1, by omega, by go_num, HD.out.drewN _, fun j hj => by rw [show j = 0 from Nat.lt_one_iff.1 hj]; exact HG.out⟩
            case measure => simp [intOf]; omega
          | succ k =>
            have hc0 := hc k (by omega)
            obtain ⟨y, hy⟩ : ∃ y, y = nth xs k := ⟨_, rfl⟩
            rw [← hy] at hc0
            have HY := Lib.hid hy
            have hwk : IntKind.i64.wrap (((k + 1 : Nat) : Int) - 1) = (k : Int) := by rw [show ((k + 1 : Nat) : Int) - 1 = (k : Int) by omega]; exact IntWalk.i64_in _ (by omega)
            have hkI : (k : Int) < (n : Int) := by omega
            have hk0 : (0 : Int) < ((k + 1 : Nat) : Int) := by omega
            clear hc hs hx hy
            by_cases hyx : y < x
            · have HF := Lib.hid (isShapeB_false (xs := xs) (fun h => by
                have := (h.2 (k + 1) (by have := HL.out; omega)).2
                have e1 : prevS xs (k + 1) = nth xs k := rfl
                have := HX.out; have := HY.out
                omega))
              go_wp2_with fail
              go_quiet ((go_at_call 82; exact Calls.quiet_of (l1In_yes hx0 hx1 _)))
              go_wp2
              go_ret
              exact ⟨ret_bool HF.out.symm, HD.out.drewN _⟩
            · have HG : Hid (shapeAt xs (k + 1)) := Lib.hid (by
                have e1 : prevS xs (k + 1) = nth xs k := rfl
                have := HX.out; have := HY.out
                unfold shapeAt
                omega)
              go_wp2_with fail
              go_quiet ((go_at_call 82; exact Calls.quiet_of (l1In_yes hx0 hx1 _)))
              go_wp2
              go_roundw
              case rel => exact ⟨k + 1 + 1, by omega, by go_num, HD.out.drewN _, fun j hj => by
                rcases Nat.lt_or_ge j (k + 1) with h | h
                · exact HA.out j h
                · obtain rfl : j = k + 1 := by omega
                  exact HG.out⟩
              case measure => simp [intOf]; omega
        · have HF := Lib.hid (isShapeB_false (xs := xs) (fun h => by
            have h1 := h.2 k (by have := HL.out; omega)
            have h2 := prevS_le HA.out
            unfold shapeAt at h1
            have := HX.out
            omega))
          clear hc hs hx
          go_wp2_with fail
          go_quiet ((go_at_call 82; exact Calls.quiet_of (l1In_no (by omega) _)))
          go_wp2
          go_ret
          exact ⟨ret_bool HF.out.symm, HD.out.drewN _⟩
      · have hkn : k = n := by omega
        subst hkn
        go_wp2
        go_ret
        exact ⟨ret_bool (isShapeB_true ⟨by have := HL.out; omega, by rw [HL.out]; exact HA.out⟩).symm, HD.out⟩
  · have HF := Lib.hid (isShapeB_false (xs := xs) (fun h => by have := h.1; have := HL.out; omega))
    have h16' : (16 : Int) < (n : Int) := by omega
    go_enter Try.func96, Try.ntmps96
    go_wp2
    go_ret
    exact ⟨ret_bool HF.out.symm, Drawn.refl _⟩
set_option maxHeartbeats 800000 in
theorem implIsShape_any (A : Option Addr) (n c : Nat) (xs : List Int) (w : World) (hs : SI w A n xs) (hn : n ≤ 1099511627776) :
    Calls Try.prog 98 #[.slice A n c] w fun e w' => e = .returned (.bool (isShapeB xs)) ∧ Drawn w w' := by
  have HL := Lib.hid hs.1
  by_cases h16 : n ≤ 16
  · go_enter Try.func98, Try.ntmps98
    go_wp2
    go_loopw [3, 11] (fun m i wr => ∃ k : Nat, k ≤ n ∧ i = .int .i64 k ∧ m = .int .i64 (prevS xs k) ∧ Drawn w wr ∧ ∀ j, j < k → shapeAt xs j)
      (fun _ i _ => n - (intOf i).toNat)
    case atStart => exact ⟨0, Nat.zero_le _, rfl, rfl, Drawn.refl _, fun j hj => absurd hj (by omega)⟩
    case round =>
      obtain ⟨k, hk, rfl, rfl, hD, hall⟩ := hrel
      have HA := Lib.hid hall
      have HD := Lib.hid hD
      have hs := hD.si hs
      clear hall hD
      by_cases hlt : k < n
      · obtain ⟨b, o, e1, hb, hc⟩ := hs.at_ (by omega)
        subst e1
        have hc1 := hc k hlt
        obtain ⟨x, hx⟩ : ∃ x, x = nth xs k := ⟨_, rfl⟩
        rw [← hx] at hc1
        have HX := Lib.hid hx
        obtain ⟨y, hy⟩ : ∃ y, y = prevS xs k := ⟨_, rfl⟩
        rw [← hy]
        have HY := Lib.hid hy
        have hlI : (k : Int) < (n : Int) := by omega
        clear hc hs hx hy
        by_cases hg : 1 ≤ x ∧ x ≤ y
        · obtain ⟨hg1, hg2⟩ := hg
          have HG : Hid (shapeAt xs k) := Lib.hid (by have := HX.out; have := HY.out; unfold shapeAt; omega)
          go_wp2
          go_roundw
          case rel => exact ⟨k + 1, by omega, by go_num, by rw [HX.out]; rfl, HD.out, fun j hj => by
            rcases Nat.lt_or_ge j k with h | h
            · exact HA.out j h
            · obtain rfl : j = k := by omega
              exact HG.out⟩
          case measure => simp [intOf]; omega
        · have HF := Lib.hid (isShapeB_false (xs := xs) (fun h => by
            have h1 := h.2 k (by have := HL.out; omega)
            unfold shapeAt at h1
            have := HX.out; have := HY.out
            omega))
          by_cases hx1 : x < 1
          · go_wp2
            go_ret
            exact ⟨ret_bool HF.out.symm, HD.out⟩
          · have hyx : y < x := by omega
            clear hg
            go_wp2
            go_ret
            exact ⟨ret_bool HF.out.symm, HD.out⟩
      · have hkn : k = n := by omega
        subst hkn
        go_wp2
        go_ret
        exact ⟨ret_bool (isShapeB_true ⟨by have := HL.out; omega, by rw [HL.out]; exact HA.out⟩).symm, HD.out⟩
  · have HF := Lib.hid (isShapeB_false (xs := xs) (fun h => by have := h.1; have := HL.out; omega))
    have h16' : (16 : Int) < (n : Int) := by omega
    go_enter Try.func98, Try.ntmps98
    go_wp2
    go_ret
    exact ⟨ret_bool HF.out.symm, Drawn.refl _⟩
end Go.Proofs.Ytfaegfhbbkicgaa

/-
  The program's own test for permutations, as arrays: contracts. Conditions: the length is at most 2^40.
-/

namespace Go.Proofs.Ytfaegfhbbkicgaa
open Go.RowKit

/-- An array of integers as a value. -/
abbrev arrC (l : List Int) : Array Value := #[.int .i64 (nth l 0), .int .i64 (nth l 1), .int .i64 (nth l 2), .int .i64 (nth l 3), .int .i64 (nth l 4), .int .i64 (nth l 5), .int .i64 (nth l 6)]
abbrev arr (l : List Int) : Value := .agg (arrC l)

theorem isPermSize_any (a : Int) (w : World) :
    Calls Try.prog 157 #[.int .i64 a] w fun e w' => e = .returned (.bool (decide (1 ≤ a) && decide (a ≤ 7))) ∧ w = w' := by
  by_cases h1 : 1 ≤ a
  · by_cases h2 : a ≤ 7
    · go_enter Try.func157, Try.ntmps157
      go_wp2
      go_ret
      exact ⟨ret_bool (by simp [h1, h2]), rfl⟩
    · go_enter Try.func157, Try.ntmps157
      go_wp2
      go_ret
      exact ⟨ret_bool (by simp [h2]), rfl⟩
  · have h1' : a < 1 := by omega
    go_enter Try.func157, Try.ntmps157
    go_wp2
    go_ret
    exact ⟨ret_bool (by simp; intro; omega), rfl⟩
theorem isPermSize_yes {a : Int} (h : 1 ≤ a) (h' : a ≤ 7) (w : World) :
    Calls Try.prog 157 #[.int .i64 a] w fun e w' => e = .returned (.bool true) ∧ w = w' := by
  have := isPermSize_any a w
  simpa [h, h'] using this
theorem isPermSize_no {a : Int} (h : a < 1 ∨ 7 < a) (w : World) :
    Calls Try.prog 157 #[.int .i64 a] w fun e w' => e = .returned (.bool false) ∧ w = w' := by
  have e : (decide (1 ≤ a) && decide (a ≤ 7)) = false := by simp; omega
  have := isPermSize_any a w
  rwa [e] at this

set_option maxHeartbeats 1000000 in
theorem identityArray_any (w : World) :
    Calls Try.prog 161 #[] w fun e w' => e = .returned (.agg #[.int .i64 0, .int .i64 1, .int .i64 2, .int .i64 3, .int .i64 4, .int .i64 5, .int .i64 6]) ∧ Below w.heap.size w w' := by
  go_enter Try.func161, Try.ntmps161
  go_wp2
  go_rounds 8
  go_returns
  exact ⟨rfl, by go_grown⟩

/-- The array of a permutation, k places filled: behind them each number stands at its place. -/
def fillA (xs : List Int) (k : Nat) : List Int := (List.range 7).map fun (j : Nat) => if j < k then nth xs j else (j : Int)
theorem fillA_len (xs : List Int) (k : Nat) : (fillA xs k).length = 7 := by simp [fillA]
theorem fillA_nth (xs : List Int) (k j : Nat) (hj : j < 7) : nth (fillA xs k) j = if j < k then nth xs j else (j : Int) := by
  rw [nth_get (by rw [fillA_len]; exact hj)]
  simp [fillA]
/-- Which numbers are among the first k. -/
def seenC (xs : List Int) (k : Nat) : Array Value := ((List.range 7).map fun (v : Nat) => Value.bool (hasB (xs.take k) (v : Int))).toArray
theorem lt7 {k : Nat} (h : k < 7) : k = 0 ∨ k = 1 ∨ k = 2 ∨ k = 3 ∨ k = 4 ∨ k = 5 ∨ k = 6 := by omega
theorem arrC_get (l : List Int) (k : Nat) (h : k < 7) : (arrC l)[k]? = some (.int .i64 (nth l k)) := by
  rcases lt7 h with rfl | rfl | rfl | rfl | rfl | rfl | rfl <;> rfl
theorem arrC_set (l : List Int) (k : Nat) (h : k < 7) (x : Int) (hl : l.length = 7) : (arrC l).setIfInBounds k (.int .i64 x) = arrC (l.set k x) := by
  match l, hl with
  | [a, b, c, d, e, f, g], _ =>
    rcases lt7 h with rfl | rfl | rfl | rfl | rfl | rfl | rfl <;> rfl
theorem arrC_fill (xs : List Int) (k : Nat) (h : k < 7) : (arrC (fillA xs k)).setIfInBounds k (.int .i64 (nth xs k)) = arrC (fillA xs (k + 1)) := by
  rw [arrC_set _ k h _ (fillA_len _ _)]
  congr 1
  apply List.ext_getElem (by simp [fillA])
  intro j h1 h2
  rw [List.getElem_set]
  simp only [fillA, List.getElem_map, List.getElem_range]
  by_cases e : k = j
  · subst e; simp
  · rw [if_neg e]
    by_cases h3 : j < k
    · rw [if_pos h3, if_pos (by omega)]
    · rw [if_neg h3, if_neg (by omega)]
theorem seenC_zero (xs : List Int) : seenC xs 0 = #[.bool false, .bool false, .bool false, .bool false, .bool false, .bool false, .bool false] := by
  simp [seenC, hasB, List.range_succ]
theorem seenC_get (xs : List Int) (k : Nat) (x : Int) (h0 : 0 ≤ x) (h7 : x < 7) : (seenC xs k)[x.toNat]? = some (.bool (hasB (xs.take k) x)) := by
  have e : ((x.toNat : Nat) : Int) = x := by omega
  simp only [seenC, List.getElem?_toArray, List.getElem?_map]
  rw [List.getElem?_range (by omega)]
  simp [e]
theorem seenC_set (xs : List Int) (k : Nat) (hk : k < xs.length) (h0 : 0 ≤ nth xs k) : (seenC xs k).setIfInBounds (nth xs k).toNat (.bool true) = seenC xs (k + 1) := by
  apply Array.ext_getElem?
  intro j
  rw [Array.getElem?_setIfInBounds]
  by_cases e : (nth xs k).toNat = j
  · rw [if_pos e]
    by_cases hj : j < 7
    · rw [if_pos (by simp [seenC]; omega)]
      simp only [seenC, List.getElem?_toArray, List.getElem?_map]
      rw [List.getElem?_range hj, take_nth hk]
      have : ((j : Nat) : Int) = nth xs k := by omega
      simp [hasB, this]
    · rw [if_neg (by simp [seenC]; omega)]
      symm
      apply Array.getElem?_eq_none
      simp [seenC]; omega
  · rw [if_neg e]
    by_cases hj : j < 7
    · simp only [seenC, List.getElem?_toArray, List.getElem?_map]
      rw [List.getElem?_range hj, take_nth hk]
      have : ¬ ((j : Nat) : Int) = nth xs k := by omega
      simp [hasB, this]
    · rw [Array.getElem?_eq_none (by simp [seenC]; omega), Array.getElem?_eq_none (by simp [seenC]; omega)]

abbrev zeroC : Array Value := #[.int .i64 0, .int .i64 0, .int .i64 0, .int .i64 0, .int .i64 0, .int .i64 0, .int .i64 0]

theorem Try.infoArr : (Try.prog.info? 120).map (·.size) = some 7 := by kernel_rfl
theorem Try.undArr : Try.prog.underlying 120 = some (.array 7 3) := Try.underlying120
theorem zeroC_one : zeroC.all (·.oneCell') = true := by simp [Value.oneCell']
theorem arrC_one (l : List Int) : (arrC l).all (·.oneCell') = true := by simp [Value.oneCell']
set_option maxHeartbeats 2000000 in
theorem arrayOf_any (A : Option Addr) (n c : Nat) (xs : List Int) (w : World) (hs : SI w A n xs) (hn : n ≤ 1099511627776) :
    Calls Try.prog 114 #[.slice A n c] w fun e w' => (isPermB xs = true ∧ e = .returned (.tuple #[arr (fillA xs n), .bool true]) ∨ isPermB xs = false ∧ e = .returned (.tuple #[.agg zeroC, .bool false])) ∧ Below w.heap.size w w' := by
  have hl := hs.1
  by_cases hsz : 1 ≤ n ∧ n ≤ 7
  · obtain ⟨hs1, hs7⟩ := hsz
    go_enter Try.func114, Try.ntmps114
    go_wp2_with (first | (go_at_call 157; refine (isPermSize_yes (by omega) (by omega) _).mono ?_; rintro e w1 ⟨rfl, rfl⟩) | (go_at_call 161; refine (identityArray_any _).mono ?_; rintro e w2 ⟨rfl, hb2⟩))
    have hbR : Blk w2 w.heap.size 120 zeroC := ((Blk.new w 120 zeroC).below hb2 (by simp))
    have hbw : Below w.heap.size w w2 := ((Below.refl _ _).alloc (Nat.le_refl _) _).trans (hb2.mono (by simp))
    have hb0 := Blk.new w2 120 (arrC (fillA xs 0))
    have hb1 := Blk.new (w2.alloc (.cells #[.int .i64 0, .int .i64 1, .int .i64 2, .int .i64 3, .int .i64 4, .int .i64 5, .int .i64 6] 120)) 156 (seenC xs 0)
    rw [show (w2.alloc (.cells #[.int .i64 0, .int .i64 1, .int .i64 2, .int .i64 3, .int .i64 4, .int .i64 5, .int .i64 6] 120)).heap.size = w2.heap.size + 1 from by simp, seenC_zero] at hb1
    have HW2 : Hid (w.heap.size + 1 ≤ w2.heap.size) := Lib.hid (by have := hb2.size; simpa using this)
    clear hb2
    go_loopw [16] (fun i wr => ∃ k : Nat, k ≤ n ∧ i = .int .i64 k ∧ Blk wr w.heap.size 120 zeroC ∧ Blk wr w2.heap.size 120 (arrC (fillA xs k)) ∧ Blk wr (w2.heap.size + 1) 156 (seenC xs k) ∧ Below w.heap.size w wr ∧ ∀ j, j < k → goodAt xs j)
      (fun i _ => n - (intOf i).toNat)
    case atStart =>
      refine ⟨0, Nat.zero_le _, rfl, (hbR.alloc _).alloc _, ?_, ?_, ?_, fun j hj => absurd hj (by omega)⟩
      · exact hb0.alloc _
      · rw [seenC_zero]; exact hb1
      · exact (hbw.alloc hbw.size _).alloc (by have := hbw.size; simp; omega) _
    case round =>
      obtain ⟨k, hk, rfl, hR, hG, hS, hB, hall⟩ := hrel
      have HA := Lib.hid hall
      have HL := Lib.hid hl
      have HB := Lib.hid hB
      have HR := Lib.hid hR
      have HG := Lib.hid hG
      have HS := Lib.hid hS
      clear hall hl hB hR hbw hb0 hb1 hbR hG hS
      by_cases hlt : k < n
      · obtain ⟨b, o, e1, hb, hc⟩ := hs.at_ (by omega)
        have hc1 : wr.cell? ⟨b, o + k, none⟩ = some (.int .i64 (nth xs k)) := (HB.out.cell (p := ⟨b, o + k, none⟩) hb).trans (hc k hlt)
        subst e1
        obtain ⟨x, hx⟩ : ∃ x, x = nth xs k := ⟨_, rfl⟩
        rw [← hx] at hc1
        have HX := Lib.hid hx
        clear hc hs hx
        by_cases hx0 : x < 0
        · have hf : isPermB xs = false := by
            refine isPermB_false fun hp => ?_
            obtain ⟨g1, _, _⟩ := (hp.2.2 k (by have := HL.out; omega))
            rw [← HX.out] at g1; omega
          have HF := Lib.hid hf
          clear hf
          go_wp2_with (refine wpList_store_blk rfl 120 (.tmp 2) (.tmp 34) rfl w.heap.size zeroC rfl rfl 120 zeroC HR.out Try.infoArr rfl zeroC_one ?_; intro w3 hR3 hg3)
          refine bodyPost_ret (results_blk_tmp Try.results114 _ _ _ _ _ 7 3 rfl hR3 Try.undArr Try.infoArr) rfl ?_
          exact ⟨.inr ⟨HF.out, rfl⟩, HB.out.grown hg3 HB.out.size (by rintro _ ⟨⟩; exact Nat.le_refl _)⟩
        · by_cases hxn : (n : Int) ≤ x
          · have hf : isPermB xs = false := by
              refine isPermB_false fun hp => ?_
              obtain ⟨_, g1, _⟩ := (hp.2.2 k (by have := HL.out; omega))
              rw [← HX.out, HL.out] at g1; omega
            have HF := Lib.hid hf
            clear hf
            go_wp2_with (refine wpList_store_blk rfl 120 (.tmp 2) (.tmp 34) rfl w.heap.size zeroC rfl rfl 120 zeroC HR.out Try.infoArr rfl zeroC_one ?_; intro w3 hR3 hg3)
            refine bodyPost_ret (results_blk_tmp Try.results114 _ _ _ _ _ 7 3 rfl hR3 Try.undArr Try.infoArr) rfl ?_
            exact ⟨.inr ⟨HF.out, rfl⟩, HB.out.grown hg3 HB.out.size (by rintro _ ⟨⟩; exact Nat.le_refl _)⟩
          · have hx0' : 0 ≤ x := by omega
            have hx7 : x < 7 := by omega
            have hcS : wr.cell? ⟨w2.heap.size + 1, x.toNat, none⟩ = some (.bool (hasB (xs.take k) x)) := (HS.out.cell _).trans (seenC_get xs k x hx0' hx7)
            have hfS := HS.out.frozen x.toNat
            cases hh : hasB (xs.take k) x with
            | true =>
              rw [hh] at hcS
              have hf : isPermB xs = false := by
                refine isPermB_false fun hp => ?_
                obtain ⟨_, _, g3⟩ := (hp.2.2 k (by have := HL.out; omega))
                rw [← HX.out, hh] at g3; cases g3
              have HF := Lib.hid hf
              clear hf hh
              go_wp2_with (refine wpList_store_blk rfl 120 (.tmp 2) (.tmp 34) rfl w.heap.size zeroC rfl rfl 120 zeroC HR.out Try.infoArr rfl zeroC_one ?_; intro w3 hR3 hg3)
              refine bodyPost_ret (results_blk_tmp Try.results114 _ _ _ _ _ 7 3 rfl hR3 Try.undArr Try.infoArr) rfl ?_
              exact ⟨.inr ⟨HF.out, rfl⟩, HB.out.grown hg3 HB.out.size (by rintro _ ⟨⟩; exact Nat.le_refl _)⟩
            | false =>
              rw [hh] at hcS
              have HGd : Hid (goodAt xs k) := Lib.hid (by
                have e1 := HX.out
                have e3 := HL.out
                exact ⟨by omega, by omega, by rw [← e1]; exact hh⟩)
              clear hh
              have hS' := (HS.out.set_ x.toNat (.bool true))
              have hG' := ((HG.out.far (p := ⟨w2.heap.size + 1, x.toNat, none⟩) (by show w2.heap.size ≠ w2.heap.size + 1; omega) (.bool true)).set_ k (.int .i64 x))
              have hR' := ((HR.out.far (p := ⟨w2.heap.size + 1, x.toNat, none⟩) (by have := HW2.out; show w.heap.size ≠ w2.heap.size + 1; omega) (.bool true)).far (p := ⟨w2.heap.size, k, none⟩) (by have := HW2.out; show w.heap.size ≠ w2.heap.size; omega) (.int .i64 x))
              have HS2 := Lib.hid (hS'.far (p := ⟨w2.heap.size, k, none⟩) (by show w2.heap.size + 1 ≠ w2.heap.size; omega) (.int .i64 x))
              have HG2 := Lib.hid hG'
              have HR2 := Lib.hid hR'
              have HB2 := Lib.hid ((HB.out.setCell (p := ⟨w2.heap.size + 1, x.toNat, none⟩) (by have := HW2.out; show w.heap.size ≤ w2.heap.size + 1; omega) (.bool true)).setCell (p := ⟨w2.heap.size, k, none⟩) (by have := HW2.out; show w.heap.size ≤ w2.heap.size; omega) (.int .i64 x))
              have hcG : wr.cell? ⟨w2.heap.size, k, none⟩ = some (.int .i64 (nth (fillA xs k) k)) := (HG.out.cell _).trans (arrC_get _ k (by omega))
              have hfG := HG.out.frozen k
              clear hS' hG' hR'
              go_wp2
              go_roundw
              case rel =>
                have e1 := HX.out
                have e3 := HL.out
                refine ⟨k + 1, by omega, by go_num, HR2.out, ?_, ?_, HB2.out, fun j hj => ?_⟩
                · have := HG2.out
                  rw [e1, arrC_fill xs k (by omega), ← e1] at this
                  exact this
                · have := HS2.out
                  rw [e1, seenC_set xs k (by omega) (by omega), ← e1] at this
                  exact this
                · rcases Nat.lt_or_ge j k with h | h
                  · exact HA.out j h
                  · obtain rfl : j = k := by omega
                    exact HGd.out
              case measure => simp [intOf]; omega
      · have hkn : k = n := by omega
        subst hkn
        have hp : isPermB xs = true := isPermB_true ⟨by have := HL.out; omega, by have := HL.out; omega, by rw [HL.out]; exact HA.out⟩
        have HP := Lib.hid hp
        clear hp
        go_wp2_with (first | (refine wpList_load_blk rfl 120 (.tmp 4) rfl w2.heap.size rfl 120 (arrC (fillA xs k)) 7 3 HG.out Try.undArr Try.infoArr ?_) | (refine wpList_store_blk rfl 120 (.tmp 2) (.tmp 41) rfl w.heap.size (arrC (fillA xs k)) rfl rfl 120 zeroC HR.out Try.infoArr rfl (arrC_one _) ?_; intro w3 hR3 hg3))
        refine bodyPost_ret (results_blk_tmp Try.results114 _ _ _ _ _ 7 3 rfl hR3 Try.undArr Try.infoArr) rfl ?_
        exact ⟨.inl ⟨HP.out, rfl⟩, HB.out.grown hg3 HB.out.size (by rintro _ ⟨⟩; exact Nat.le_refl _)⟩
  · go_enter Try.func114, Try.ntmps114
    go_wp2_with (go_at_call 157; refine (isPermSize_no (by omega) _).mono ?_; rintro e w1 ⟨rfl, rfl⟩)
    go_returns
    refine ⟨.inr ⟨isPermB_false (fun hp => hsz ⟨by have := hp.1; omega, by have := hp.2.1; omega⟩), rfl⟩, by go_grown⟩

theorem arrayOf_yes {A : Option Addr} {n : Nat} (c : Nat) {xs : List Int} {w : World} (hs : SI w A n xs) (hn : n ≤ 1099511627776) (hp : isPermB xs = true) :
    Calls Try.prog 114 #[.slice A n c] w fun e w' => e = .returned (.tuple #[arr (fillA xs n), .bool true]) ∧ Below w.heap.size w w' := by
  refine (arrayOf_any A n c xs w hs hn).mono fun e w' ⟨he, hb⟩ => ⟨?_, hb⟩
  rcases he with ⟨_, he⟩ | ⟨h, _⟩
  · exact he
  · rw [hp] at h; cases h
theorem arrayOf_no {A : Option Addr} {n : Nat} (c : Nat) {xs : List Int} {w : World} (hs : SI w A n xs) (hn : n ≤ 1099511627776) (hp : isPermB xs = false) :
    Calls Try.prog 114 #[.slice A n c] w fun e w' => e = .returned (.tuple #[.agg zeroC, .bool false]) ∧ Below w.heap.size w w' := by
  refine (arrayOf_any A n c xs w hs hn).mono fun e w' ⟨he, hb⟩ => ⟨?_, hb⟩
  rcases he with ⟨h, _⟩ | ⟨_, he⟩
  · rw [hp] at h; cases h
  · exact he

set_option maxHeartbeats 1000000 in
theorem implIsPerm_any (A : Option Addr) (n c : Nat) (xs : List Int) (w : World) (hs : SI w A n xs) (hn : n ≤ 1099511627776) :
    Calls Try.prog 110 #[.slice A n c] w fun e w' => e = .returned (.bool (isPermB xs)) ∧ Below w.heap.size w w' := by
  cases hp : isPermB xs with
  | true =>
    have HP := Lib.hid hp
    clear hp
    go_enter Try.func110, Try.ntmps110
    go_wp2_with (go_at_call 114; refine (arrayOf_yes c hs hn HP.out).mono ?_; rintro e w1 ⟨rfl, hb1⟩)
    go_ret
    exact ⟨rfl, hb1.alloc hb1.size _⟩
  | false =>
    have HP := Lib.hid hp
    clear hp
    go_enter Try.func110, Try.ntmps110
    go_wp2_with (go_at_call 114; refine (arrayOf_no c hs hn HP.out).mono ?_; rintro e w1 ⟨rfl, hb1⟩)
    go_ret
    exact ⟨rfl, hb1.alloc hb1.size _⟩
end Go.Proofs.Ytfaegfhbbkicgaa

/-
  Contracts of the program's functions: copies of arrays, identity, longest, products, inverses. Conditions: lengths below 2^40.
-/




namespace Go.Proofs.Ytfaegfhbbkicgaa
open Go.RowKit

set_option maxHeartbeats 400000 in
theorem clone_any (A : Option Addr) (n c : Nat) (xs : List Int) (w : World) (hs : SI w A n xs) (hA : A = none → n = 0 ∧ c = 0) (hn : n ≤ 1099511627776) :
    Calls Try.prog 173 #[.slice A n c] w fun e w' => Fresh w w' e xs := by
  have hl := hs.1
  cases A with
  | none =>
    obtain ⟨rfl, rfl⟩ := hA rfl
    have hx : xs = [] := List.eq_nil_of_length_eq_zero hl
    subst hx
    have hnil := fun wx => Lib.run_eql_slice_nil (P := Try.prog) wx 22 3 none 0 0 0 0 Try.underlying22
    go_enter Try.func173, Try.ntmps173
    go_wp2
    go_ret
    exact Fresh.nil_ret (Below.refl _ _)
  | some a =>
    have hnil := fun wx => Lib.run_eql_slice_nil (P := Try.prog) wx 22 3 (some a) n c 0 0 Try.underlying22
    have HL := Lib.hid hl
    clear hl
    go_enter Try.func173, Try.ntmps173
    go_wp2_with (at_builtin; refine wpList_append_all rfl (.tmp 5) (.tmp 6) rfl w.heap.size (some ⟨w.heap.size, 0, none⟩) 0 0 [] (some a) n c xs rfl rfl ((Own.empty w).wide (Nat.le_refl _) (by simp)) (hs.alloc _) (by simp) (by omega) hn ?_; intro A' c' w1 ho1 _ hb1)
    go_ret
    have e := HL.out
    subst e
    exact ⟨A', _, c', rfl, by simpa using ho1, (Below.alloc_self _ _).trans hb1⟩

/-- A slice of an array that lies in a block. -/
theorem SI.of_arr {w : World} {g t n : Nat} {l : List Int} (h : Blk w g t (arrC l)) (hn : n ≤ 7) (hl : l.length = 7) : SI w (some ⟨g, 0, none⟩) n (l.take n) := by
  refine ⟨by simp; omega, fun _ => ⟨g, 0, rfl, h.lt, fun k hk => ?_⟩⟩
  rw [nth_take hk, Nat.zero_add, h.cell, arrC_get l k (by omega)]

theorem Try.arrLen : Try.prog.arrayLen 120 = 7 := by kernel_rfl
theorem Try.arrElem : Try.prog.elem 120 = 3 := by kernel_rfl
theorem sliceArr_to (a : Addr) (n : Nat) (hn : n ≤ 7) (w : World) : (Instr.sliceAt 120 (.pointer (some a)) none (some (.int .i64 n)) none).run Try.prog w = .ok (.slice (some a) n 7) w := by
  obtain ⟨i0, hi, hz0, hz1, hz2⟩ := info_parts Try.infoInt
  have h := run_sliceAt_array_h (P := Try.prog) w 120 a (by rw [Try.arrLen, Try.arrElem]; exact Try.undArr) .i64 (n : Int) (by omega) (by rw [Try.arrLen]; omega)
  rw [h, Try.arrLen, Try.arrElem]
  simp [sizeOf, typeInfo, hi, slicedAt, Addr.add]
theorem sliceArr_from (a : Addr) (n : Nat) (hn : n ≤ 7) (w : World) : (Instr.sliceAt 120 (.pointer (some a)) (some (.int .i64 n)) none none).run Try.prog w = .ok (.slice (some (if 7 = n then a else a.add n)) (7 - n) (7 - n)) w := by
  obtain ⟨i0, hi, hz0, hz1, hz2⟩ := info_parts Try.infoInt
  have h := run_sliceAt_array_l (P := Try.prog) w 120 a (by rw [Try.arrLen, Try.arrElem]; exact Try.undArr) .i64 (n : Int) (by omega) (by rw [Try.arrLen]; omega)
  rw [h, Try.arrLen, Try.arrElem]
  simp [sizeOf, typeInfo, hi, slicedAt, hz1]

set_option maxHeartbeats 400000 in
theorem list_any (l : List Int) (n : Nat) (w : World) (hl : l.length = 7) (hn : n ≤ 7) :
    Calls Try.prog 117 #[arr l, .int .i64 n] w fun e w' => Fresh w w' e (l.take n) := by
  have HL := Lib.hid hl
  clear hl
  have hsl := fun wx => sliceArr_to ⟨w.heap.size, 0, none⟩ n hn wx
  go_enter Try.func117, Try.ntmps117
  go_wp2_with fail
  refine (clone_any _ _ _ _ _ (SI.of_arr (Blk.new w 120 (arrC l)) hn HL.out) (by intro h; cases h) (by omega)).mono ?_
  rintro e w1 ⟨A1, n1, c1, rfl, ho1, hb1⟩
  go_wp2
  go_ret
  exact Fresh.after (Below.alloc_self _ _) ⟨A1, n1, c1, rfl, ho1, hb1⟩

set_option maxHeartbeats 400000 in
theorem implIdentity_in (n : Nat) (w : World) (h1 : 1 ≤ n) (h7 : n ≤ 7) :
    Calls Try.prog 102 #[.int .i64 n] w fun e w' => Fresh w w' e (idL n) := by
  have e7 : (idL 7).take n = idL n := by
    rw [idL, idL, ← List.map_take, List.take_range, Nat.min_eq_left h7]
  have HE := Lib.hid e7
  clear e7
  go_enter Try.func102, Try.ntmps102
  go_wp2_with fail
  refine (isPermSize_yes (by omega) (by omega) _).mono ?_
  rintro e w1 ⟨rfl, rfl⟩
  go_wp2_with fail
  refine (identityArray_any _).mono ?_
  rintro e w2 ⟨rfl, hb2⟩
  go_wp2_with fail
  refine (list_any (idL 7) n w2 rfl h7).mono ?_
  rintro e w3 ⟨A3, n3, c3, rfl, ho3, hb3⟩
  rw [HE.out] at ho3
  go_wp2
  go_ret
  exact Fresh.after hb2 ⟨A3, n3, c3, rfl, ho3, hb3⟩
theorem implIdentity_out (a : Int) (w : World) (h : a < 1 ∨ 7 < a) :
    Calls Try.prog 102 #[.int .i64 a] w fun e w' => Fresh w w' e [] := by
  go_enter Try.func102, Try.ntmps102
  go_wp2_with (go_at_call 157; refine (isPermSize_no (by omega) _).mono ?_; rintro e w' ⟨rfl, rfl⟩)
  go_ret
  exact ⟨none, 0, 0, rfl, Own.nil _ _ _, Below.refl _ _⟩
theorem implIdentity_any (a : Int) (w : World) : Calls Try.prog 102 #[.int .i64 a] w fun e w' => Fresh w w' e (idPerm a) := by
  unfold idPerm
  split
  · rename_i h
    have e : a = ((a.toNat : Nat) : Int) := by omega
    have := implIdentity_in a.toNat w (by omega) (by omega)
    rwa [← e] at this
  · exact implIdentity_out a w (by omega)
end Go.Proofs.Ytfaegfhbbkicgaa

/-
  The lengths of rows as an array of sixteen numbers, and back. Conditions: lengths below 2^40.
-/



namespace Go.Proofs.Ytfaegfhbbkicgaa
open Go.RowKit

abbrev arrD (l : List Int) : Array Value := #[.int .i64 (nth l 0), .int .i64 (nth l 1), .int .i64 (nth l 2), .int .i64 (nth l 3), .int .i64 (nth l 4), .int .i64 (nth l 5), .int .i64 (nth l 6), .int .i64 (nth l 7), .int .i64 (nth l 8), .int .i64 (nth l 9), .int .i64 (nth l 10), .int .i64 (nth l 11), .int .i64 (nth l 12), .int .i64 (nth l 13), .int .i64 (nth l 14), .int .i64 (nth l 15)]
abbrev arr16 (l : List Int) : Value := .agg (arrD l)
theorem lt16 {k : Nat} (h : k < 16) : k = 0 ∨ k = 1 ∨ k = 2 ∨ k = 3 ∨ k = 4 ∨ k = 5 ∨ k = 6 ∨ k = 7 ∨ k = 8 ∨ k = 9 ∨ k = 10 ∨ k = 11 ∨ k = 12 ∨ k = 13 ∨ k = 14 ∨ k = 15 := by omega
theorem arrD_get (l : List Int) (k : Nat) (h : k < 16) : (arrD l)[k]? = some (.int .i64 (nth l k)) := by
  rcases lt16 h with rfl | rfl | rfl | rfl | rfl | rfl | rfl | rfl | rfl | rfl | rfl | rfl | rfl | rfl | rfl | rfl <;> rfl
theorem arrD_of {l : List Int} (h : l.length = 16) : (l.map (Value.int .i64)).toArray = arrD l := by
  apply Array.ext_getElem?
  intro k
  by_cases hk : k < 16
  · rw [arrD_get l k hk]
    simp only [List.getElem?_toArray, List.getElem?_map]
    rw [nth_get? (by omega)]; rfl
  · rw [Array.getElem?_eq_none (by simp [h]; omega), Array.getElem?_eq_none (by simp; omega)]
theorem arrD_set (l : List Int) (k : Nat) (_ : k < 16) (x : Int) (hl : l.length = 16) : (arrD l).setIfInBounds k (.int .i64 x) = arrD (l.set k x) := by
  rw [← arrD_of hl, ← arrD_of (l := l.set k x) (by simpa using hl)]
  simp [List.map_set]
theorem arrD_one (l : List Int) : (arrD l).all (·.oneCell') = true := by simp [Value.oneCell']
theorem Try.infoRows : (Try.prog.info? 82).map (·.size) = some 16 := by kernel_rfl
theorem Try.undRows : Try.prog.underlying 82 = some (.array 16 3) := Try.underlying82
theorem Try.lenRows : Try.prog.arrayLen 82 = 16 := by kernel_rfl
theorem Try.elemRows : Try.prog.elem 82 = 3 := by kernel_rfl
theorem SI.of_rows {w : World} {g t n : Nat} {l : List Int} (h : Blk w g t (arrD l)) (hn : n ≤ 16) (hl : l.length = 16) : SI w (some ⟨g, 0, none⟩) n (l.take n) := by
  refine ⟨by simp; omega, fun _ => ⟨g, 0, rfl, h.lt, fun k hk => ?_⟩⟩
  rw [nth_take hk, Nat.zero_add, h.cell, arrD_get l k (by omega)]
theorem sliceRows_to (a : Addr) (n : Nat) (hn : n ≤ 16) (w : World) : (Instr.sliceAt 82 (.pointer (some a)) none (some (.int .i64 n)) none).run Try.prog w = .ok (.slice (some a) n 16) w := by
  obtain ⟨i0, hi, hz0, hz1, hz2⟩ := info_parts Try.infoInt
  have h := run_sliceAt_array_h (P := Try.prog) w 82 a (by rw [Try.lenRows, Try.elemRows]; exact Try.undRows) .i64 (n : Int) (by omega) (by rw [Try.lenRows]; omega)
  rw [h, Try.lenRows, Try.elemRows]
  simp [sizeOf, typeInfo, hi, slicedAt, Addr.add]
abbrev zero16 : Array Value := #[.int .i64 0, .int .i64 0, .int .i64 0, .int .i64 0, .int .i64 0, .int .i64 0, .int .i64 0, .int .i64 0, .int .i64 0, .int .i64 0, .int .i64 0, .int .i64 0, .int .i64 0, .int .i64 0, .int .i64 0, .int .i64 0]
set_option maxRecDepth 100000 in
set_option maxHeartbeats 800000 in
theorem rowLengthsOf_any (A : Option Addr) (n c : Nat) (xs : List Int) (w : World) (hs : SI w A n xs) (hn : n ≤ 16) :
    Calls Try.prog 68 #[.slice A n c] w fun e w' => e = .returned (arr16 (padN 16 xs)) ∧ Below w.heap.size w w' := by
  have HL := Lib.hid hs.1
  have HS := Lib.hid hs
  clear hs
  obtain ⟨t, ht⟩ : ∃ t, t = 82 := ⟨_, rfl⟩
  have hz : zero16 = ((List.replicate 16 (0 : Int)).map (Value.int .i64)).toArray := rfl
  have hz0 : Blk ((w.alloc (.cells zero16 82)).alloc (.cells zero16 82)) (w.heap.size + 1) 82 ((List.replicate 16 (0 : Int)).map (Value.int .i64)).toArray := by
    rw [← hz]
    have := Blk.new (w.alloc (.cells zero16 82)) 82 zero16
    rwa [show (w.alloc (.cells zero16 82)).heap.size = w.heap.size + 1 from by simp] at this
  have hz1 : Blk ((w.alloc (.cells zero16 82)).alloc (.cells zero16 82)) w.heap.size 82 zero16 := (Blk.new w 82 zero16).alloc _
  have hz2 : Below w.heap.size w ((w.alloc (.cells zero16 82)).alloc (.cells zero16 82)) := ((Below.refl _ _).alloc (Nat.le_refl _) _).alloc (by simp) _
  have hz3 : SI ((w.alloc (.cells zero16 82)).alloc (.cells zero16 82)) A n xs := (HS.out.alloc _).alloc _
  have HZ0 := Lib.hid hz0
  have HZ1 := Lib.hid hz1
  have HZ2 := Lib.hid hz2
  have HZ3 := Lib.hid hz3
  clear hz0 hz1 hz2 hz3 hz ht t
  go_enter Try.func68, Try.ntmps68
  go_wp2_with (first
    | (skip
       refine wpList_copy_arr rfl (.tmp 4) (.tmp 5) rfl (w.heap.size + 1) 16 A n c rfl rfl 82 xs HZ0.out HZ3.out hn ?_
       intro w4 hb4 hg4
       rw [arrD_of (padN_len (by rw [HL.out]; exact hn))] at hb4
       have HB4 := Lib.hid hb4
       have HA4 : Hid (Blk w4 w.heap.size 82 zero16) := Lib.hid (HZ1.out.grown hg4 (by intro e; injection e with e; omega))
       have HW4 : Hid (Below w.heap.size w w4) := Lib.hid (HZ2.out.grown hg4 HZ2.out.size (by rintro q ⟨⟩; omega))
       clear hb4 hg4)
    | (refine wpList_load_blk rfl 82 (.tmp 3) rfl (w.heap.size + 1) rfl 82 (arrD (padN 16 xs)) 16 3 HB4.out Try.undRows Try.infoRows ?_)
    | (refine wpList_store_blk rfl 82 (.tmp 2) (.tmp 7) rfl w.heap.size (arrD (padN 16 xs)) rfl rfl 82 zero16 HA4.out Try.infoRows rfl (arrD_one _) ?_; intro w5 hb5 hg5)
    | fail)
  refine bodyPost_ret (results_blk Try.results68 _ _ _ _ _ 16 3 rfl hb5 Try.undRows Try.infoRows) rfl ?_
  exact ⟨rfl, HW4.out.grown hg5 HW4.out.size (by rintro q ⟨⟩; exact Nat.le_refl _)⟩
end Go.Proofs.Ytfaegfhbbkicgaa

/-
  The conjugate shape, on both sides. Conditions: lengths below 2^40.
-/


namespace Go.Proofs.Ytfaegfhbbkicgaa
open Go.RowKit

/-- How many of the first k numbers are more than j. -/
def cntN (xs : List Int) (j : Nat) : Nat → Int
  | 0 => 0
  | k + 1 => if (j : Int) < nth xs k then cntN xs j k + 1 else cntN xs j k
theorem cntN_range (xs : List Int) (j : Nat) : ∀ k : Nat, 0 ≤ cntN xs j k ∧ cntN xs j k ≤ (k : Int)
  | 0 => ⟨Int.le_refl _, Int.le_refl _⟩
  | k + 1 => by
    have := cntN_range xs j k
    unfold cntN
    split <;> omega
def conjL (xs : List Int) (m : Nat) : List Int := (List.range m).map fun j => cntN xs j xs.length
theorem conjL_len (xs : List Int) (m : Nat) : (conjL xs m).length = m := by simp [conjL]
theorem conjL_succ (xs : List Int) (m : Nat) : conjL xs (m + 1) = conjL xs m ++ [cntN xs m xs.length] := by simp [conjL, List.range_succ]
/-- What ConjugateShape answers. -/
def conjShape (xs : List Int) : List Int := if isShapeB xs = true then conjL xs (nth xs 0).toNat else []
theorem conj_no {xs : List Int} (h : isShapeB xs = false) : conjShape xs = [] := by unfold conjShape; rw [if_neg (by rw [h]; decide)]
theorem conj_yes {xs : List Int} (h : isShapeB xs = true) : conjShape xs = conjL xs (nth xs 0).toNat := by unfold conjShape; rw [if_pos h]
theorem shape_first {xs : List Int} (h : isShapeP xs) : ∀ k, k < xs.length → nth xs k ≤ nth xs 0 := by
  intro k
  induction k with
  | zero => intro _; exact Int.le_refl _
  | succ k ih => intro hk; have h1 := ih (by omega); have h2 : nth xs (k + 1) ≤ nth xs k := (h.2 (k + 1) hk).2; omega
theorem shape_range {xs : List Int} (h : isShapeP xs) : ∀ k, 0 ≤ nth xs k ∧ nth xs k ≤ 16 := by
  have h0 : nth xs 0 ≤ 16 ∨ xs.length = 0 := by
    by_cases hl : xs.length = 0
    · exact .inr hl
    · exact .inl ((h.2 0 (by omega)).2)
  intro k
  by_cases hk : k < xs.length
  · have h1 := (h.2 k hk).1
    have h2 := shape_first h k hk
    omega
  · rw [nth_out (by omega)]; omega
theorem conj_small (xs : List Int) : (conjShape xs).length ≤ 1099511627775 := by
  unfold conjShape
  split
  · rename_i h
    rw [conjL_len]
    have := shape_range (isShapeB_P h) 0
    omega
  · simp
theorem Fresh.nil_ret' {w w' : World} (h : Below w.heap.size w w') : Fresh w w' (.returned (.slice none 0 0)) [] := ⟨none, 0, 0, rfl, Own.nil _ _ _, h⟩
set_option maxHeartbeats 400000 in
theorem l4At_any (A : Option Addr) (n c : Nat) (xs : List Int) (i : Nat) (w : World) (hs : SI w A n xs) (hn : n ≤ 1099511627776) (hi : i ≤ 1099511627776) :
    Calls Try.prog 65 #[.slice A n c, .int .i64 i] w fun e w' => e = .returned (.int .i64 (nth xs i)) ∧ w = w' := by
  by_cases hlt : i < n
  · obtain ⟨b, o, rfl, hb, hc⟩ := hs.at_ (by omega)
    have hc1 := hc i hlt
    have hlI : (i : Int) < (n : Int) := by omega
    obtain ⟨x, hx⟩ : ∃ x, x = nth xs i := ⟨_, rfl⟩
    rw [← hx] at hc1 ⊢
    clear hc hs hx
    go_enter Try.func65, Try.ntmps65
    go_wp2
    go_ret
    exact ⟨rfl, rfl⟩
  · rw [nth_out (by have := hs.1; omega)]
    have hlI : ¬ (i : Int) < (n : Int) := by omega
    clear hs
    go_enter Try.func65, Try.ntmps65
    go_wp2
    go_ret
    exact ⟨rfl, rfl⟩
end Go.Proofs.Ytfaegfhbbkicgaa

/-
  The conjugate shape, the program's side. Conditions: lengths below 2^40.
-/

namespace Go.Proofs.Ytfaegfhbbkicgaa
open Go.RowKit

/-- The columns when i rows are counted, and j cells of the next one. -/
def colM (xs : List Int) (m i j : Nat) : List Int := (List.range m).map fun t => if t < j then cntN xs t (i + 1) else cntN xs t i
theorem colM_len (xs : List Int) (m i j : Nat) : (colM xs m i j).length = m := by simp [colM]
theorem colM_nth {xs : List Int} {m i j t : Nat} (h : t < m) : nth (colM xs m i j) t = if t < j then cntN xs t (i + 1) else cntN xs t i := by
  rw [nth_get (by rw [colM_len]; exact h)]; simp [colM]
theorem list_ext_nth {a b : List Int} (hl : a.length = b.length) (h : ∀ k, k < a.length → nth a k = nth b k) : a = b := by
  apply List.ext_getElem hl
  intro j h1 h2
  rw [← nth_get h1, ← nth_get h2]
  exact h j h1
theorem nth_set {l : List Int} {k : Nat} (x : Int) (hk : k < l.length) (j : Nat) : nth (l.set k x) j = if j = k then x else nth l j := by
  unfold nth
  rw [List.getD_eq_getElem?_getD, List.getD_eq_getElem?_getD, List.getElem?_set]
  by_cases h : k = j
  · subst h; simp [hk]
  · rw [if_neg h, if_neg (fun h' => h h'.symm)]
theorem colM_step {xs : List Int} {m i j : Nat} (hj : j < m) (hx : (j : Int) < nth xs i) : (colM xs m i j).set j (cntN xs j i + 1) = colM xs m i (j + 1) := by
  refine list_ext_nth (by simp [colM_len]) fun k hk => ?_
  have hk' : k < m := by simpa [colM_len] using hk
  rw [nth_set _ (by rw [colM_len]; exact hj), colM_nth hk', colM_nth hk']
  by_cases h : k = j
  · subst h
    rw [if_pos rfl, if_pos (by omega)]
    show _ = if (k : Int) < nth xs i then cntN xs k i + 1 else cntN xs k i
    rw [if_pos hx]
  · rw [if_neg h]
    by_cases h2 : k < j
    · rw [if_pos h2, if_pos (by omega)]
    · rw [if_neg h2, if_neg (by omega)]
theorem colM_row {xs : List Int} {m i j : Nat} (hx : nth xs i = (j : Int)) : colM xs m i j = colM xs m (i + 1) 0 := by
  refine list_ext_nth (by simp [colM_len]) fun k hk => ?_
  have hk' : k < m := by simpa [colM_len] using hk
  rw [colM_nth hk', colM_nth hk', if_neg (by omega : ¬ k < 0)]
  by_cases h : k < j
  · rw [if_pos h]
  · rw [if_neg h]
    show _ = if (k : Int) < nth xs i then cntN xs k i + 1 else cntN xs k i
    rw [if_neg (by omega)]
theorem colM_start (xs : List Int) (m : Nat) : colM xs m 0 0 = List.replicate m 0 := by
  refine list_ext_nth (by simp [colM_len]) fun k hk => ?_
  have hk' : k < m := by simpa [colM_len] using hk
  rw [colM_nth hk', if_neg (by omega), nth_get (by simpa using hk')]
  simp [cntN]
theorem colM_all (xs : List Int) (m : Nat) : colM xs m xs.length 0 = conjL xs m := by
  refine list_ext_nth (by simp [colM_len, conjL_len]) fun k hk => ?_
  have hk' : k < m := by simpa [colM_len] using hk
  rw [colM_nth hk', if_neg (by omega), nth_get (by simpa [conjL_len] using hk')]
  simp [conjL]
end Go.Proofs.Ytfaegfhbbkicgaa

/-
  Contracts of the program's functions on arrays: products, inverses; reversing a slice. Conditions: lengths below 2^40.
-/

namespace Go.Proofs.Ytfaegfhbbkicgaa
open Go.RowKit

theorem idxArr (l : List Int) (k : Nat) (h : k < 7) (w : World) : (Instr.index 120 (.agg (arrC l)) (.int .i64 k)).run Try.prog w = .ok (.int .i64 (nth l k)) w := by
  rcases lt7 h with rfl | rfl | rfl | rfl | rfl | rfl | rfl <;> kernel_rfl

def part7 (g h : Nat → Int) (k : Nat) : List Int := (List.range 7).map fun j => if j < k then g j else h j
theorem part7_len (g h : Nat → Int) (k : Nat) : (part7 g h k).length = 7 := by simp [part7]
theorem part7_nth (g h : Nat → Int) (k j : Nat) (hj : j < 7) : nth (part7 g h k) j = if j < k then g j else h j := by
  rw [nth_get (by rw [part7_len]; exact hj)]
  simp [part7]
theorem part7_set (g h : Nat → Int) (k : Nat) (hk : k < 7) : (arrC (part7 g h k)).setIfInBounds k (.int .i64 (g k)) = arrC (part7 g h (k + 1)) := by
  rw [arrC_set _ k hk _ (part7_len _ _ _)]
  congr 1
  apply List.ext_getElem (by simp [part7])
  intro j h1 h2
  rw [List.getElem_set]
  simp only [part7, List.getElem_map, List.getElem_range]
  by_cases e : k = j
  · subst e; simp
  · rw [if_neg e]
    by_cases h3 : j < k
    · rw [if_pos h3, if_pos (by omega)]
    · rw [if_neg h3, if_neg (by omega)]

/-- The product of two arrays. -/
def permTimesL (la lb : List Int) : List Int := part7 (fun j => nth la (nth lb j).toNat) (fun _ => 0) 7

/-! Plain facts on the array of a permutation. -/
theorem fillA_range {xs : List Int} (h : isPermP xs) (k : Nat) (hk : k < 7) : 0 ≤ nth (fillA xs xs.length) k ∧ nth (fillA xs xs.length) k < 7 := by
  have h7 := h.2.1
  rw [fillA_nth _ _ _ hk]
  split
  · rename_i hlt
    have := h.range k hlt
    omega
  · omega
theorem fillA_ge {xs : List Int} {n k : Nat} (h : ¬ k < n) (hk : k < 7) : nth (fillA xs n) k = (k : Int) := by rw [fillA_nth _ _ _ hk, if_neg h]
theorem fillA_lt {xs : List Int} {n k : Nat} (h : k < n) (hk : k < 7) : nth (fillA xs n) k = nth xs k := by rw [fillA_nth _ _ _ hk, if_pos h]

theorem permTimesL_take {us vs : List Int} (_hu : isPermP us) (hv : isPermP vs) (hl : us.length = vs.length) : (permTimesL (fillA us us.length) (fillA vs vs.length)).take vs.length = compL us vs vs.length := by
  have h7 := hv.2.1
  apply List.ext_getElem
  · rw [List.length_take, compL_len]; simp [permTimesL, part7]; omega
  · intro j h1 h2
    have hj : j < vs.length := by rw [compL_len] at h2; exact h2
    have hr := hv.range j hj
    rw [List.getElem_take]
    simp only [permTimesL, part7, compL, List.getElem_map, List.getElem_range]
    rw [if_pos (by omega), fillA_lt hj (by omega), fillA_lt (by omega) (by omega)]

theorem invM_take {xs : List Int} (h : isPermP xs) : (invM (fillA xs xs.length) 7 7).take xs.length = invM xs xs.length xs.length := by
  have h7 := h.2.1
  have key : ∀ k, k ≤ xs.length → (invM (fillA xs xs.length) 7 k).take xs.length = invM xs xs.length k := by
    intro k
    induction k with
    | zero =>
      intro _
      show (List.replicate 7 (0 : Int)).take xs.length = List.replicate xs.length 0
      rw [List.take_replicate, Nat.min_eq_left h7]
    | succ k ih =>
      intro hk
      have hr := h.range k (by omega)
      rw [invM_succ, invM_succ, ← ih (by omega), fillA_lt (by omega) (by omega), List.take_set]
  have key2 : ∀ d, xs.length + d ≤ 7 → (invM (fillA xs xs.length) 7 (xs.length + d)).take xs.length = invM xs xs.length xs.length := by
    intro d
    induction d with
    | zero => intro _; exact key _ (Nat.le_refl _)
    | succ d ih =>
      intro hd
      rw [show xs.length + (d + 1) = (xs.length + d) + 1 from by omega, invM_succ, fillA_ge (by omega) (by omega), List.take_set]
      rw [List.set_eq_of_length_le (by simp [invM_len]; omega)]
      exact ih (by omega)
  have := key2 (7 - xs.length) (by omega)
  rwa [show xs.length + (7 - xs.length) = 7 from by omega] at this
end Go.Proofs.Ytfaegfhbbkicgaa

/-
  Contracts of the specification's EmbedPerm, TrimPerm, RankAt. Conditions: lengths below 2^40.
-/


namespace Go.Proofs.Ytfaegfhbbkicgaa
open Go.RowKit

set_option maxHeartbeats 400000 in
theorem l1Ints_any (A : Option Addr) (n c : Nat) (xs : List Int) (w : World) (hs : SI w A n xs) (hn : n ≤ 1099511627776) :
    Calls Try.prog 170 #[.slice A n c] w fun e w' => Fresh w w' e xs := by
  go_enter Try.func170, Try.ntmps170
  go_wp2_with (at_builtin; refine wpList_append_all rfl (.tmp 3) (.tmp 4) rfl w.heap.size (some ⟨w.heap.size, 0, none⟩) 0 0 [] A n c xs rfl rfl ((Own.empty w).wide (Nat.le_refl _) (by simp)) (hs.alloc _) (by simp) (by omega) hn ?_; intro A' c' w1 ho1 _ hb1)
  go_ret
  exact ⟨A', _, c', rfl, by simpa using ho1, (Below.alloc_self _ _).trans hb1⟩

theorem fill_take_len {xs : List Int} (h7 : xs.length ≤ 7) : (fillA xs xs.length).take xs.length = xs := by
  apply List.ext_getElem
  · rw [List.length_take, fillA_len]; omega
  · intro j h1 h2
    rw [List.getElem_take]
    simp only [fillA, List.getElem_map, List.getElem_range]
    rw [if_pos h2, nth_get h2]
theorem fill_take_succ {xs : List Int} {k : Nat} (hk : xs.length ≤ k) (h7 : k < 7) : (fillA xs xs.length).take (k + 1) = (fillA xs xs.length).take k ++ [(k : Int)] := by
  rw [take_nth (by rw [fillA_len]; exact h7), fillA_ge (by omega) h7]
theorem fill_take_short {xs : List Int} {k : Nat} (hk : k ≤ xs.length) (h7 : xs.length ≤ 7) : (fillA xs xs.length).take k = xs.take k := by
  have := fill_take_len h7
  rw [← this, List.take_take]
  rw [this, Nat.min_eq_left hk]

/-- What EmbedPerm answers. -/
def embPerm (xs : List Int) (a : Int) : List Int := if isPermB xs = true ∧ (xs.length : Int) ≤ a ∧ a ≤ 7 then (fillA xs xs.length).take a.toNat else []
theorem embPerm_no {xs : List Int} {a : Int} (h : isPermB xs = false ∨ a < (xs.length : Int) ∨ 7 < a) : embPerm xs a = [] := by
  unfold embPerm
  rw [if_neg]
  rintro ⟨h1, h2, h3⟩
  rcases h with h | h | h
  · rw [h1] at h; cases h
  · omega
  · omega
theorem embPerm_yes {xs : List Int} {m : Nat} (h : isPermB xs = true) (h1 : xs.length ≤ m) (h2 : m ≤ 7) : embPerm xs (m : Int) = (fillA xs xs.length).take m := by
  unfold embPerm
  rw [if_pos ⟨h, by omega, by omega⟩, Int.toNat_natCast]
theorem embPerm_small (xs : List Int) (a : Int) : (embPerm xs a).length ≤ 1099511627775 := by
  unfold embPerm
  split
  · rw [List.length_take, fillA_len]; omega
  · simp
/-- How much of a permutation is left. -/
def trimN (xs : List Int) : Nat → Nat
  | 0 => 0
  | k + 1 => if 0 < k ∧ nth xs k = (k : Int) then trimN xs k else k + 1
theorem trimN_hit {xs : List Int} {k : Nat} (h0 : 0 < k) (h : nth xs k = (k : Int)) : trimN xs (k + 1) = trimN xs k := by
  show (if 0 < k ∧ nth xs k = (k : Int) then trimN xs k else k + 1) = _
  rw [if_pos ⟨h0, h⟩]
theorem trimN_miss {xs : List Int} {k : Nat} (h : ¬ (0 < k ∧ nth xs k = (k : Int))) : trimN xs (k + 1) = k + 1 := by
  show (if 0 < k ∧ nth xs k = (k : Int) then trimN xs k else k + 1) = _
  rw [if_neg h]
theorem trimN_le (xs : List Int) (k : Nat) : trimN xs k ≤ k := by
  induction k with
  | zero => exact Nat.le_refl _
  | succ k ih => unfold trimN; split <;> omega
def trimPerm (xs : List Int) : List Int := if isPermB xs = true then xs.take (trimN xs xs.length) else []
theorem trimPerm_no {xs : List Int} (h : isPermB xs = false) : trimPerm xs = [] := by unfold trimPerm; rw [if_neg (by rw [h]; decide)]
theorem trimPerm_yes {xs : List Int} (h : isPermB xs = true) : trimPerm xs = xs.take (trimN xs xs.length) := by unfold trimPerm; rw [if_pos h]
theorem trimPerm_small (xs : List Int) : (trimPerm xs).length ≤ 1099511627775 := by
  unfold trimPerm
  split
  · rename_i h
    have := isPermB_small h
    rw [List.length_take]; omega
  · simp
set_option maxHeartbeats 800000 in
theorem l1Trim_any (A : Option Addr) (n c : Nat) (xs : List Int) (w : World) (hs : SI w A n xs) (hnc : n ≤ c) (h1 : 1 ≤ n) (hn : n ≤ 1099511627776) :
    Calls Try.prog 164 #[.slice A n c] w fun e w' => Fresh w w' e (xs.take (trimN xs n)) := by
  have hl := hs.1
  have HL := Lib.hid hl
  clear hl
  obtain ⟨b, o, rfl, hb, hc⟩ := hs.at_ (by omega)
  have HC := Lib.hid hc
  clear hc
  go_enter Try.func164, Try.ntmps164
  go_wp2
  go_loop [3] (fun v => ∃ k : Nat, k + 1 ≤ n ∧ v = .int .i64 ((k : Int) + 1) ∧ trimN xs (k + 1) = trimN xs n)
    (fun v => (intOf v).toNat)
  case atStart => exact ⟨n - 1, by omega, by go_num, by rw [show n - 1 + 1 = n from by omega]⟩
  case round =>
    obtain ⟨k, hk, rfl, htr⟩ := hrel
    have HT := Lib.hid htr
    have hck := HC.out k (by omega)
    obtain ⟨x, hx⟩ : ∃ x, x = nth xs k := ⟨_, rfl⟩
    rw [← hx] at hck
    have HX := Lib.hid hx
    clear htr hx
    by_cases h0 : 0 < k
    · by_cases hxk : x = (k : Int)
      · subst hxk
        go_wp2
        go_round
        case rel =>
          have e1 := HX.out
          have e2 := HT.out
          rw [trimN_hit h0 e1.symm] at e2
          exact ⟨k - 1, by omega, by go_num, by rw [show k - 1 + 1 = k from by omega]; exact e2⟩
        case measure => simp only [intOf]; omega
      · have hxb : (x == (k : Int)) = false := by simpa using hxk
        have e2 := HT.out
        rw [trimN_miss (by have := HX.out; rintro ⟨_, h⟩; omega)] at e2
        have HT2 := Lib.hid e2
        have hst := hs.take (k := k + 1) (by omega)
        have HX2 := Lib.hid hxk
        clear e2 HT hxk
        go_wp2_with fail
        refine (l1Ints_any _ _ _ _ _ hst (by omega)).mono ?_
        rintro e w3 ⟨A3, n3, c3, rfl, ho3, hb3⟩
        go_wp2
        go_ret
        rw [← HT2.out]
        exact ⟨A3, n3, c3, rfl, ho3, hb3⟩
    · have hk0 : k = 0 := by omega
      subst hk0
      have e2 := HT.out
      rw [trimN_miss (by rintro ⟨h, _⟩; omega)] at e2
      have HT2 := Lib.hid e2
      have hst := hs.take (k := 1) (by omega)
      clear e2 HT
      go_wp2_with fail
      refine (l1Ints_any _ _ _ _ _ hst (by omega)).mono ?_
      rintro e w3 ⟨A3, n3, c3, rfl, ho3, hb3⟩
      go_wp2
      go_ret
      rw [← HT2.out]
      exact ⟨A3, n3, c3, rfl, ho3, hb3⟩
/-- How many of the first k numbers are below c. -/
def rankN (xs : List Int) (c : Int) : Nat → Nat
  | 0 => 0
  | k + 1 => rankN xs c k + if nth xs k < c then 1 else 0
theorem rankN_le (xs : List Int) (c : Int) (k : Nat) : rankN xs c k ≤ k := by
  induction k with
  | zero => exact Nat.le_refl _
  | succ k ih => unfold rankN; split <;> omega
theorem rankN_hit {xs : List Int} {c : Int} {k : Nat} (h : nth xs k < c) : rankN xs c (k + 1) = rankN xs c k + 1 := by
  show rankN xs c k + (if nth xs k < c then 1 else 0) = _
  rw [if_pos h]
theorem rankN_miss {xs : List Int} {c : Int} {k : Nat} (h : ¬ nth xs k < c) : rankN xs c (k + 1) = rankN xs c k := by
  show rankN xs c k + (if nth xs k < c then 1 else 0) = _
  rw [if_neg h]; rfl
theorem rankN_congr {xs ys : List Int} (c : Int) : ∀ k, (∀ t, t < k → nth xs t = nth ys t) → rankN xs c k = rankN ys c k := by
  intro k
  induction k with
  | zero => intro _; rfl
  | succ k ih => intro h; unfold rankN; rw [ih (fun t ht => h t (by omega)), h k (by omega)]
/-- What RankAt answers. -/
def rankPerm (xs : List Int) (r c : Int) : Int := if isPermB xs = true ∧ 0 ≤ r ∧ r ≤ xs.length ∧ 0 ≤ c ∧ c ≤ xs.length then (rankN xs c r.toNat : Int) else -1
theorem rankPerm_no {xs : List Int} {r c : Int} (h : ¬ (isPermB xs = true ∧ 0 ≤ r ∧ r ≤ xs.length ∧ 0 ≤ c ∧ c ≤ xs.length)) : rankPerm xs r c = -1 := by unfold rankPerm; rw [if_neg h]
theorem rankPerm_yes {xs : List Int} {r : Nat} {c : Int} (h : isPermB xs = true) (h1 : (r : Int) ≤ xs.length) (h2 : 0 ≤ c) (h3 : c ≤ xs.length) : rankPerm xs (r : Int) c = (rankN xs c r : Int) := by
  unfold rankPerm; rw [if_pos ⟨h, by omega, h1, h2, h3⟩, Int.toNat_natCast]
end Go.Proofs.Ytfaegfhbbkicgaa

/-
  Contracts of the program's ComposePerms and InversePerm. Conditions: lengths below 2^40.
-/

namespace Go.Proofs.Ytfaegfhbbkicgaa
open Go.RowKit

/-- arrayOf, whatever the list: an array, and whether it is a permutation's. -/
theorem arrayOf_x {A : Option Addr} {n : Nat} (c : Nat) {xs : List Int} {w : World} {b : Bool} (hb : isPermB xs = b) (hs : SI w A n xs) (hn : n ≤ 1099511627776) :
    Calls Try.prog 114 #[.slice A n c] w fun e w' => ∃ l, e = .returned (.tuple #[arr l, .bool b]) ∧ (b = true → l = fillA xs n) ∧ Below w.heap.size w w' := by
  subst hb
  refine (arrayOf_any A n c xs w hs hn).mono fun e w' ⟨he, hbl⟩ => ?_
  rcases he with ⟨h, he⟩ | ⟨h, he⟩
  · exact ⟨_, by rw [h]; exact he, fun _ => rfl, hbl⟩
  · exact ⟨[0, 0, 0, 0, 0, 0, 0], by rw [h]; exact he, (fun h' => by rw [h] at h'; cases h'), hbl⟩

end Go.Proofs.Ytfaegfhbbkicgaa

/-
  Contracts of the program's lengths, codes and descents. Conditions: lengths below 2^40.
-/


namespace Go.Proofs.Ytfaegfhbbkicgaa
open Go.RowKit

set_option maxHeartbeats 1000000 in
theorem inversionsAt_any (l : List Int) (i : Nat) (w : World) (hi : i < 7) :
    Calls Try.prog 191 #[arr l, .int .i64 i] w fun e w' => e = .returned (.int .i64 (codeCnt l i 7 : Int)) ∧ Below w.heap.size w w' := by
  have hb := Blk.new w 120 (arrC l)
  have HBk := Lib.hid hb
  have hci : (w.alloc (.cells (arrC l) 120)).cell? ⟨w.heap.size, i, none⟩ = some (.int .i64 (nth l i)) := (hb.cell _).trans (arrC_get l i hi)
  obtain ⟨y, hy⟩ : ∃ y, y = nth l i := ⟨_, rfl⟩
  rw [← hy] at hci
  have HY := Lib.hid hy
  clear hy hb
  by_cases h6 : i < 6
  · have hsl : ∀ wx, (Instr.sliceAt 120 (.pointer (some ⟨w.heap.size, 0, none⟩)) (some (.int .i64 ((i : Int) + 1))) none none).run Try.prog wx = .ok (.slice (some ⟨w.heap.size, i + 1, none⟩) (6 - i) (6 - i)) wx := fun wx => by
      have := sliceArr_from ⟨w.heap.size, 0, none⟩ (i + 1) (by omega) wx
      rw [if_neg (by omega), add_pt, Nat.zero_add, show 7 - (i + 1) = 6 - i from by omega] at this
      exact this
    go_enter Try.func191, Try.ntmps191
    go_wp2
    go_loop [5, 12] (fun v m => ∃ k : Nat, k ≤ 6 - i ∧ m = .int .i64 k ∧ v = .int .i64 (codeCnt l i (i + 1 + k) : Int))
      (fun _ m => 6 - (intOf m).toNat)
    case atStart => exact ⟨0, Nat.zero_le _, rfl, by rw [codeCnt_low l i (i + 1 + 0) (by omega)]; rfl⟩
    case round =>
      obtain ⟨k, hk, rfl, rfl⟩ := hrel
      by_cases hlt : k < 6 - i
      · have hck : (w.alloc (.cells (arrC l) 120)).cell? ⟨w.heap.size, i + 1 + k, none⟩ = some (.int .i64 (nth l (i + 1 + k))) := (HBk.out.cell _).trans (arrC_get l _ (by omega))
        obtain ⟨x, hx⟩ : ∃ x, x = nth l (i + 1 + k) := ⟨_, rfl⟩
        rw [← hx] at hck
        have HX := Lib.hid hx
        clear hx
        have hcl : (codeCnt l i (i + 1 + k) : Int) ≤ 100 := by have := codeCnt_le l i (i + 1 + k); omega
        obtain ⟨q, hq⟩ : ∃ q, q = codeCnt l i (i + 1 + k) := ⟨_, rfl⟩
        rw [← hq] at hcl ⊢
        have HQ := Lib.hid hq
        clear hq
        by_cases hxy : x < y
        · go_wp2
          go_round
          case rel =>
            have e1 := HX.out
            have e2 := HY.out
            have e3 := HQ.out
            refine ⟨k + 1, by omega, by go_num, ?_⟩
            rw [show i + 1 + (k + 1) = (i + 1 + k) + 1 from by omega, codeCnt_hit (by omega) (by omega), ← e3]
            go_num
          case measure => simp [intOf]; omega
        · go_wp2
          go_round
          case rel =>
            have e1 := HX.out
            have e2 := HY.out
            have e3 := HQ.out
            refine ⟨k + 1, by omega, by go_num, ?_⟩
            rw [show i + 1 + (k + 1) = (i + 1 + k) + 1 from by omega, codeCnt_miss (by omega), ← e3]
          case measure => simp [intOf]; omega
      · have hkn : k = 6 - i := by omega
        subst hkn
        go_wp2
        go_ret
        exact ⟨ret_int (by rw [show i + 1 + (6 - i) = 7 from by omega]), Below.alloc_self _ _⟩
  · have h6 : i = 6 := by omega
    subst h6
    have hsl : ∀ wx, (Instr.sliceAt 120 (.pointer (some ⟨w.heap.size, 0, none⟩)) (some (.int .i64 7)) none none).run Try.prog wx = .ok (.slice (some ⟨w.heap.size, 0, none⟩) 0 0) wx := fun wx =>
      sliceArr_from ⟨w.heap.size, 0, none⟩ 7 (by omega) wx
    go_enter Try.func191, Try.ntmps191
    go_wp2
    refine wp_loop_rounds 1 ?_
    rw [rounds_succ]
    go_wp2
    go_ret
    exact ⟨ret_int (by rw [codeCnt_low l 6 7 (by omega)]; rfl), Below.alloc_self _ _⟩

/-- The inversions of the first k places of an array. -/
def invSum (l : List Int) : Nat → Int
  | 0 => 0
  | k + 1 => invSum l k + (codeCnt l k 7 : Int)
theorem invSum_bounds (l : List Int) (k : Nat) : 0 ≤ invSum l k ∧ invSum l k ≤ 7 * (k : Int) := by
  induction k with
  | zero => exact ⟨Int.le_refl _, by simp [invSum]⟩
  | succ k ih =>
    have e : invSum l (k + 1) = invSum l k + (codeCnt l k 7 : Int) := rfl
    have := codeCnt_le l k 7
    omega
theorem codeCnt_congr {xs ys : List Int} {i : Nat} (hi : nth xs i = nth ys i) : ∀ j, (∀ t, t < j → nth xs t = nth ys t) → codeCnt xs i j = codeCnt ys i j := by
  intro j
  induction j with
  | zero => intro _; rfl
  | succ j ih =>
    intro h
    unfold codeCnt
    rw [ih (fun t ht => h t (by omega)), hi, h j (by omega)]
theorem codeCnt_fill {xs : List Int} (h : isPermP xs) (i : Nat) (hi : i < xs.length) : codeCnt (fillA xs xs.length) i 7 = codeCnt xs i xs.length := by
  have h7 := h.2.1
  have key : ∀ d, xs.length + d ≤ 7 → codeCnt (fillA xs xs.length) i (xs.length + d) = codeCnt xs i xs.length := by
    intro d
    induction d with
    | zero => intro _; exact codeCnt_congr (fillA_lt hi (by omega)) _ (fun t ht => fillA_lt ht (by omega))
    | succ d ih =>
      intro hd
      rw [show xs.length + (d + 1) = (xs.length + d) + 1 from by omega, codeCnt_miss, ih (by omega)]
      rw [fillA_ge (by omega) (by omega), fillA_lt hi (by omega)]
      have := h.range i hi
      omega
  have := key (7 - xs.length) (by omega)
  rwa [show xs.length + (7 - xs.length) = 7 from by omega] at this
theorem codeCnt_fill_ge {xs : List Int} (i : Nat) (hi : ¬ i < xs.length) (h7 : i < 7) : codeCnt (fillA xs xs.length) i 7 = 0 := by
  have key : ∀ d, i + 1 + d ≤ 7 → codeCnt (fillA xs xs.length) i (i + 1 + d) = 0 := by
    intro d
    induction d with
    | zero => intro _; exact codeCnt_low _ _ _ (by omega)
    | succ d ih =>
      intro hd
      rw [show i + 1 + (d + 1) = (i + 1 + d) + 1 from by omega, codeCnt_miss, ih (by omega)]
      rw [fillA_ge (by omega) (by omega), fillA_ge hi (by omega)]
      omega
  have := key (6 - i) (by omega)
  rwa [show i + 1 + (6 - i) = 7 from by omega] at this
theorem invSum_fill {xs : List Int} (h : isPermP xs) : invSum (fillA xs xs.length) 7 = lenL xs := by
  have h7 := h.2.1
  have k1 : ∀ k, k ≤ xs.length → invSum (fillA xs xs.length) k = sumN (codeL xs xs.length xs.length) k := by
    intro k
    induction k with
    | zero => intro _; rfl
    | succ k ih =>
      intro hk
      show invSum _ k + (codeCnt _ k 7 : Int) = sumN _ k + nth _ k
      rw [ih (by omega), codeL_nth _ _ _ _ (by omega), if_pos (by omega), codeCnt_fill h k (by omega)]
  have k2 : ∀ d, xs.length + d ≤ 7 → invSum (fillA xs xs.length) (xs.length + d) = lenL xs := by
    intro d
    induction d with
    | zero => intro _; exact k1 _ (Nat.le_refl _)
    | succ d ih =>
      intro hd
      show invSum _ (xs.length + d) + (codeCnt _ (xs.length + d) 7 : Int) = _
      rw [ih (by omega), codeCnt_fill_ge _ (by omega) (by omega)]
      simp
  have := k2 (7 - xs.length) (by omega)
  rwa [show xs.length + (7 - xs.length) = 7 from by omega] at this

set_option maxHeartbeats 1000000 in
theorem length_any (l : List Int) (w : World) :
    Calls Try.prog 172 #[arr l] w fun e w' => e = .returned (.int .i64 (invSum l 7)) ∧ Below w.heap.size w w' := by
  go_enter Try.func172, Try.ntmps172
  go_wp2
  go_loopw [3, 5] (fun v i wr => ∃ k : Nat, k ≤ 7 ∧ i = .int .i64 k ∧ v = .int .i64 (invSum l k) ∧ Blk wr w.heap.size 120 (arrC l) ∧ Below w.heap.size w wr)
    (fun _ i _ => 7 - (intOf i).toNat)
  case atStart => exact ⟨0, by omega, rfl, rfl, Blk.new w _ _, Below.alloc_self _ _⟩
  case round =>
    obtain ⟨k, hk, rfl, rfl, hA, hB⟩ := hrel
    have HA := Lib.hid hA
    have HB := Lib.hid hB
    clear hA hB
    by_cases hlt : k < 7
    · have hq := invSum_bounds l k
      have hc := codeCnt_le l k 7
      have e : invSum l (k + 1) = invSum l k + (codeCnt l k 7 : Int) := rfl
      obtain ⟨q, hqe⟩ : ∃ q, q = invSum l k := ⟨_, rfl⟩
      rw [← hqe] at hq e ⊢
      obtain ⟨hq1, hq2⟩ := hq
      have HE := Lib.hid e
      clear e hqe
      go_wp2_with (first | (refine wpList_load_blk rfl 120 (.tmp 1) rfl w.heap.size rfl 120 (arrC l) 7 3 HA.out Try.undArr Try.infoArr ?_) | (go_at_call 191; refine (inversionsAt_any l k wr hlt).mono ?_; rintro e w1 ⟨rfl, hb1⟩))
      go_roundw
      case rel => exact ⟨k + 1, by omega, by go_num, by rw [HE.out], HA.out.below hb1 HA.out.lt, HB.out.trans (hb1.mono HB.out.size)⟩
      case measure => simp [intOf]; omega
    · have hkn : k = 7 := by omega
      subst hkn
      go_wp2
      go_ret
      exact ⟨rfl, HB.out⟩

set_option maxHeartbeats 1000000 in
theorem implLength_any (A : Option Addr) (n c : Nat) (xs : List Int) (w : World) (hs : SI w A n xs) (hn : n ≤ 1099511627776) :
    Calls Try.prog 153 #[.slice A n c] w fun e w' => e = .returned (.int .i64 (lenPerm xs)) ∧ Below w.heap.size w w' := by
  have hl := hs.1
  cases hu : isPermB xs with
  | false =>
    have HE := Lib.hid (lenPerm_no hu)
    have HU := Lib.hid hu
    clear hu
    go_enter Try.func153, Try.ntmps153
    go_wp2_with fail
    refine (arrayOf_x c HU.out hs hn).mono ?_
    rintro e w1 ⟨l, rfl, -, hb1⟩
    go_wp2
    go_ret
    exact ⟨ret_int HE.out.symm, hb1.alloc hb1.size _⟩
  | true =>
    have HE := Lib.hid (lenPerm_yes hu)
    have HU := Lib.hid hu
    clear hu
    go_enter Try.func153, Try.ntmps153
    go_wp2_with fail
    refine (arrayOf_x c HU.out hs hn).mono ?_
    rintro e w1 ⟨l, rfl, hlf, hb1⟩
    have HF := Lib.hid (hlf rfl)
    have HL := Lib.hid hl
    clear hlf hl
    have hK := Blk.new w1 120 (arrC l)
    go_wp2_with (refine wpList_load_blk rfl 120 (.tmp 3) rfl w1.heap.size rfl 120 (arrC l) 7 3 hK Try.undArr Try.infoArr ?_)
    have hb2 : Below w.heap.size w (w1.alloc (.cells (arrC l) 120)) := hb1.alloc hb1.size _
    generalize w1.alloc (.cells (arrC l) 120) = w2 at *
    refine (length_any l w2).mono ?_
    rintro e w3 ⟨rfl, hb3⟩
    have hp := isPermB_P HU.out
    have e2 := invSum_fill hp
    have e1 := HF.out
    rw [HL.out] at e2
    rw [e1, e2]
    have HB3 := Lib.hid (hb2.trans (hb3.mono hb2.size))
    clear e1 e2 hb3 hb2 hK hp
    go_wp2
    go_ret
    exact ⟨ret_int HE.out.symm, HB3.out⟩

theorem isDescent_fact {x y : Int} : (decide (y < x)) = decide (x > y) := rfl
end Go.Proofs.Ytfaegfhbbkicgaa

/-
  Contracts of the program's descents and of reversing a slice. Conditions: lengths below 2^40.
-/

namespace Go.Proofs.Ytfaegfhbbkicgaa
open Go.RowKit

theorem descL_fill {xs : List Int} (h : isPermP xs) : ∀ k, k + 1 ≤ xs.length → descL (fillA xs xs.length) k = descL xs k := by
  have h7 := h.2.1
  intro k
  induction k with
  | zero => intro _; rfl
  | succ k ih =>
    intro hk
    unfold descL
    rw [ih (by omega), fillA_lt (by omega) (by omega), fillA_lt (by omega) (by omega)]

/-- Reversing, k places exchanged from both ends. -/
def revM (xs : List Int) (n k : Nat) : List Int := (List.range n).map fun t => if t < k ∨ n ≤ t + k then nth xs (n - 1 - t) else nth xs t
theorem revM_len (xs : List Int) (n k : Nat) : (revM xs n k).length = n := by simp [revM]
theorem revM_nth (xs : List Int) (n k t : Nat) (h : t < n) : nth (revM xs n k) t = if t < k ∨ n ≤ t + k then nth xs (n - 1 - t) else nth xs t := by
  rw [nth_get (by rw [revM_len]; exact h)]; simp [revM]
theorem revM_zero (xs : List Int) : revM xs xs.length 0 = xs := by
  apply List.ext_getElem (by simp [revM])
  intro j h1 h2
  simp only [revM, List.getElem_map, List.getElem_range]
  rw [if_neg (by omega), nth_get h2]
theorem revM_done (xs : List Int) (k : Nat) (h : xs.length ≤ 2 * k + 1) : revM xs xs.length k = xs.reverse := by
  apply List.ext_getElem (by simp [revM])
  intro j h1 h2
  have hj : j < xs.length := by rw [revM_len] at h1; exact h1
  simp only [revM, List.getElem_map, List.getElem_range, List.getElem_reverse]
  split
  · rw [nth_get (by omega)]
  · rename_i hc
    have e : xs.length - 1 - j = j := by omega
    simp only [e]
    rw [nth_get hj]
theorem revM_step (xs : List Int) (n k : Nat) (h : 2 * k + 1 < n) :
    ((revM xs n k).set k (nth xs (n - 1 - k))).set (n - 1 - k) (nth xs k) = revM xs n (k + 1) := by
  apply List.ext_getElem (by simp [revM])
  intro j h1 h2
  have hj : j < n := by rw [revM_len] at h2; exact h2
  rw [List.getElem_set]
  simp only [revM, List.getElem_map, List.getElem_range]
  by_cases e : n - 1 - k = j
  · rw [if_pos e, if_pos (by omega)]
    rw [show n - 1 - j = k from by omega]
  · rw [if_neg e, List.getElem_set]
    simp only [List.getElem_map, List.getElem_range]
    by_cases e2 : k = j
    · rw [if_pos e2, if_pos (by omega), e2]
    · rw [if_neg e2]
      by_cases h3 : j < k ∨ n ≤ j + k
      · rw [if_pos h3, if_pos (by omega)]
      · rw [if_neg h3, if_neg (by omega)]

theorem idL_reverse (n : Nat) : (idL n).reverse = downL n n := by
  apply List.ext_getElem (by simp [idL, downL])
  intro j h1 h2
  simp only [List.getElem_reverse, idL, downL, List.getElem_map, List.getElem_range, List.length_map, List.length_range]
  have : j < n := by simpa [idL] using h1
  omega

end Go.Proofs.Ytfaegfhbbkicgaa

/-
  The shape of a permutation with one descent, on both sides. Conditions: lengths below 2^40.
-/




namespace Go.Proofs.Ytfaegfhbbkicgaa
open Go.RowKit

/-- Where the zeros at the end of a list begin. -/
def bareN (xs : List Int) : Nat → Nat
  | 0 => 0
  | k + 1 => if nth xs k = 0 then bareN xs k else k + 1
theorem bareN_le (xs : List Int) : ∀ k, bareN xs k ≤ k
  | 0 => Nat.le_refl _
  | k + 1 => by have := bareN_le xs k; unfold bareN; split <;> omega
theorem bareN_out (xs : List Int) : ∀ k j, bareN xs k ≤ j → j < k → nth xs j = 0
  | 0, j, _, h => absurd h (by omega)
  | k + 1, j, h1, h2 => by
    unfold bareN at h1
    split at h1
    · by_cases hj : j = k
      · subst hj; assumption
      · exact bareN_out xs k j h1 (by omega)
    · omega
theorem bareN_last (xs : List Int) : ∀ k, bareN xs k = 0 ∨ nth xs (bareN xs k - 1) ≠ 0
  | 0 => .inl rfl
  | k + 1 => by
    unfold bareN
    split
    · exact bareN_last xs k
    · right; assumption
set_option maxHeartbeats 800000 in
theorem l4Bare_any (A : Option Addr) (n c : Nat) (xs : List Int) (w : World) (hs : SI w A n xs) (hnc : n ≤ c) (hA : A ≠ none) (hn : n ≤ 1099511627776) :
    Calls Try.prog 156 #[.slice A n c] w fun e w' => Fresh w w' e (xs.take (bareN xs n)) := by
  obtain ⟨a, rfl⟩ : ∃ a, A = some a := by cases A with | none => exact absurd rfl hA | some a => exact ⟨a, rfl⟩
  have HS := Lib.hid hs
  clear hs hA
  go_enter Try.func156, Try.ntmps156
  go_wp2
  go_loopw [3] (fun i wr => ∃ k : Nat, k ≤ n ∧ i = .int .i64 k ∧ Drawn w wr ∧ bareN xs n = bareN xs k)
    (fun i _ => (intOf i).toNat)
  case atStart => exact ⟨n, Nat.le_refl _, rfl, Drawn.refl _, rfl⟩
  case round =>
    obtain ⟨k, hk, rfl, hD, hb⟩ := hrel
    have HB := Lib.hid hb
    have HD := Lib.hid hD
    clear hb hD
    cases k with
    | zero =>
      have HT := Lib.hid (l1Ints_any (some a) 0 c [] wr ⟨rfl, fun h => absurd h (by omega)⟩ (by omega))
      have hc0 : (0 : Int) ≤ (c : Int) := by omega
      go_wp2_with (go_at_call 170; refine HT.out.mono ?_; rintro e w2 ⟨A2, n2, c2, rfl, ho, hb2⟩; have HO := Lib.hid ho; have HB2 := Lib.hid hb2; clear ho hb2)
      go_ret
      rw [HB.out]
      exact ⟨A2, n2, c2, rfl, by show Own _ _ _ _ _ _ (xs.take 0); rw [List.take_zero]; exact HO.out.wide (HD.out.below w.heap.size).size (Nat.le_refl _), (HD.out.below _).trans (HB2.out.mono (HD.out.below w.heap.size).size)⟩
    | succ k =>
      obtain ⟨b, o, e1, hb, hc⟩ := (HD.out.si HS.out).at_ (by omega)
      obtain rfl : a = ⟨b, o, none⟩ := by simpa using e1
      have hc1 := hc k (by omega)
      have e : bareN xs (k + 1) = if nth xs k = 0 then bareN xs k else k + 1 := rfl
      obtain ⟨x, hx⟩ : ∃ x, x = nth xs k := ⟨_, rfl⟩
      rw [← hx] at hc1 e
      have hkI : (k : Int) < (n : Int) := by omega
      have hk0 : (0 : Int) < ((k + 1 : Nat) : Int) := by omega
      have hwk : IntKind.i64.wrap (((k + 1 : Nat) : Int) - 1) = (k : Int) := by rw [show ((k + 1 : Nat) : Int) - 1 = (k : Int) by omega]; exact IntWalk.i64_in _ (by omega)
      clear hc hx e1
      by_cases h0 : x = 0
      · rw [if_pos h0] at e
        have HE := Lib.hid e
        have hb0 : (x == 0) = true := by simpa using h0
        clear e
        go_wp2
        go_roundw
        case rel => exact ⟨k, by omega, by go_num, HD.out, by rw [HB.out, HE.out]⟩
        case measure => simp [intOf]
      · rw [if_neg h0] at e
        have HE := Lib.hid e
        have hb0 : (x == 0) = false := by simpa using h0
        have hic : ((k + 1 : Nat) : Int) ≤ (c : Int) := by omega
        have hi0 : (0 : Int) ≤ ((k + 1 : Nat) : Int) := by omega
        have HT := Lib.hid (l1Ints_any (some ⟨b, o, none⟩) (k + 1) c (xs.take (k + 1)) wr ((HD.out.si HS.out).take (by omega)) (by omega))
        obtain ⟨q, hq⟩ : ∃ q, q = k + 1 := ⟨_, rfl⟩
        rw [← hq] at hk0 hic hi0 hwk hk HE HT HB ⊢
        clear e hq
        go_wp2_with (go_at_call 170; refine HT.out.mono ?_; rintro e w2 ⟨A2, n2, c2, rfl, ho, hb2⟩; have HO := Lib.hid ho; have HB2 := Lib.hid hb2; clear ho hb2)
        go_ret
        rw [HB.out, HE.out]
        exact ⟨A2, n2, c2, rfl, HO.out.wide (HD.out.below w.heap.size).size (Nat.le_refl _), (HD.out.below _).trans (HB2.out.mono (HD.out.below w.heap.size).size)⟩
set_option maxRecDepth 100000 in
set_option maxHeartbeats 800000 in
/-- The rows of an array, up to the first one that is not above 0. -/
theorem rowsShape_any (l : List Int) (w : World) (hl : l.length = 16) :
    Calls Try.prog 160 #[arr16 l] w fun e w' => ∃ q, q ≤ 16 ∧ (∀ j, j < q → 0 < nth l j) ∧ (q = 16 ∨ ¬ 0 < nth l q) ∧ Fresh w w' e (l.take q) := by
  have HL := Lib.hid hl
  obtain ⟨w0, hw0⟩ : ∃ w0, w0 = w.alloc (.cells (arrD l) 82) := ⟨_, rfl⟩
  obtain ⟨g, hg⟩ : ∃ g, g = w.heap.size := ⟨_, rfl⟩
  have HB0 : Hid (Below w.heap.size w w0) := Lib.hid (by rw [hw0]; exact Below.alloc_self _ _)
  have HK0 : Hid (Blk w0 g 82 (arrD l)) := Lib.hid (by rw [hw0, hg]; exact Blk.new _ _ _)
  clear hl
  go_enter Try.func160, Try.ntmps160
  go_upto_region 1 with fail
  rw [← hw0, ← hg]
  clear hw0 hg
  generalize arr16 l = va
  go_wp2
  go_loopw [3] (fun i wr => ∃ k : Nat, k ≤ 16 ∧ i = .int .i64 k ∧ Drawn w0 wr ∧ ∀ j, j < k → 0 < nth l j)
    (fun i _ => 16 - (intOf i).toNat)
  case atStart => exact ⟨0, Nat.zero_le _, rfl, Drawn.refl _, fun j hj => absurd hj (by omega)⟩
  case round =>
    obtain ⟨k, hk, rfl, hD, hall⟩ := hrel
    have HA := Lib.hid hall
    have HD := Lib.hid hD
    have HK := Lib.hid (HK0.out.drawn hD)
    have HBR : Hid (Below w.heap.size w wr) := Lib.hid (HB0.out.trans ((hD.below _).mono HB0.out.size))
    have hcl := clone_any (some ⟨g, 0, none⟩) k 16 (l.take k) wr (SI.of_rows HK.out hk HL.out) (by intro h; cases h) (by omega)
    have HCL := Lib.hid hcl
    have hsl := fun wx => sliceRows_to ⟨g, 0, none⟩ k hk wx
    clear hall hD hcl
    by_cases hlt : k < 16
    · have hkI : (k : Int) < 16 := by omega
      have hc1 : wr.cell? ⟨g, k, none⟩ = some (.int .i64 (nth l k)) := by rw [HK.out.cell, arrD_get _ _ hlt]
      obtain ⟨x, hx⟩ : ∃ x, x = nth l k := ⟨_, rfl⟩
      rw [← hx] at hc1
      have HX := Lib.hid hx
      clear hx
      by_cases h0 : 0 < x
      · clear hsl
        go_wp2
        go_roundw
        case rel => exact ⟨k + 1, by omega, by go_num, HD.out, fun j hj => by
          rcases Nat.lt_or_ge j k with h | h
          · exact HA.out j h
          · obtain rfl : j = k := by omega
            rw [← HX.out]; exact h0⟩
        case measure => simp [intOf]; omega
      · go_wp2_with (go_at_call 173; refine HCL.out.mono ?_; rintro e w2 ⟨A2, n2, c2, rfl, ho, hb2⟩; have HO := Lib.hid ho; have HB2 := Lib.hid hb2; clear ho hb2)
        go_ret
        exact ⟨k, hk, HA.out, .inr (by rw [← HX.out]; exact h0), A2, n2, c2, rfl, HO.out.wide HBR.out.size (Nat.le_refl _), HBR.out.trans (HB2.out.mono HBR.out.size)⟩
    · have hk16 : k = 16 := by omega
      subst hk16
      go_wp2_with (go_at_call 173; refine HCL.out.mono ?_; rintro e w2 ⟨A2, n2, c2, rfl, ho, hb2⟩; have HO := Lib.hid ho; have HB2 := Lib.hid hb2; clear ho hb2)
      go_ret
      exact ⟨16, hk, HA.out, .inl rfl, A2, n2, c2, rfl, HO.out.wide HBR.out.size (Nat.le_refl _), HBR.out.trans (HB2.out.mono HBR.out.size)⟩
/-- A list that nowhere rises and is nowhere below 0: both ways to strike its zeros are one. -/
theorem bare_one {l : List Int} {n q : Nat} (hn : l.length = n) (h0 : ∀ j, 0 ≤ nth l j) (hd : ∀ i j, i ≤ j → nth l j ≤ nth l i) (hq : ∀ j, j < q → 0 < nth l j) (hq' : ¬ 0 < nth l q) : q = bareN l n := by
  have h1 := bareN_le l n
  rcases Nat.lt_trichotomy q (bareN l n) with h | h | h
  · rcases bareN_last l n with h2 | h2
    · omega
    · have := hd q (bareN l n - 1) (by omega)
      have := h0 (bareN l n - 1)
      omega
  · exact h
  · have := hq (bareN l n) h
    by_cases hb : bareN l n < n
    · rw [bareN_out l n _ (Nat.le_refl _) hb] at this; omega
    · rw [nth_out (by omega)] at this; omega
end Go.Proofs.Ytfaegfhbbkicgaa

/-
  ShapeOfPerm on both sides. Conditions: lengths below 2^40.
-/


namespace Go.Proofs.Ytfaegfhbbkicgaa
open Go.RowKit

/-- The lengths of the rows, of which there are j, of a permutation whose descent is at d. -/
def sopN (xs : List Int) (d j : Nat) : List Int := (List.range j).map fun (t : Nat) => nth xs (d - t) - ((d - t : Nat) : Int)
theorem sopN_len (xs : List Int) (d j : Nat) : (sopN xs d j).length = j := by simp [sopN]
theorem sopN_succ (xs : List Int) (d j : Nat) : sopN xs d (j + 1) = sopN xs d j ++ [nth xs (d - j) - ((d - j : Nat) : Int)] := by simp [sopN, List.range_succ]
theorem sopN_nth {xs : List Int} {d j t : Nat} (h : t < j) : nth (sopN xs d j) t = nth xs (d - t) - ((d - t : Nat) : Int) := by
  rw [nth_get (by rw [sopN_len]; exact h)]; simp [sopN]
def sopOk (xs : List Int) : Bool := decide ((descPerm xs).length = 1)
def sopD (xs : List Int) : Nat := (nth (descPerm xs) 0).toNat
def sopK (xs : List Int) : Int := if sopOk xs = true then (sopD xs : Int) + 1 else 0
def sopS (xs : List Int) : List Int := if sopOk xs = true then (sopN xs (sopD xs) (sopD xs + 1)).take (bareN (sopN xs (sopD xs) (sopD xs + 1)) (sopD xs + 1)) else []
theorem sop_no {xs : List Int} (h : sopOk xs = false) : sopK xs = 0 ∧ sopS xs = [] := by unfold sopK sopS; rw [h]; exact ⟨rfl, rfl⟩
theorem sop_yes {xs : List Int} (h : sopOk xs = true) {d : Nat} (hd : sopD xs = d) : sopK xs = (d : Int) + 1 ∧ sopS xs = (sopN xs d (d + 1)).take (bareN (sopN xs d (d + 1)) (d + 1)) := by subst hd; unfold sopK sopS; rw [h]; exact ⟨rfl, rfl⟩
theorem descL_inS {xs : List Int} : ∀ {n : Nat} {x : Int}, x ∈ descL xs n → ∃ k : Nat, k < n ∧ x = k ∧ nth xs (k + 1) < nth xs k
  | 0, x, h => by simp [descL] at h
  | n + 1, x, h => by
    by_cases hc : nth xs (n + 1) < nth xs n
    · rw [descL_hit hc] at h
      rcases List.mem_append.1 h with h | h
      · obtain ⟨k, h1, h2⟩ := descL_inS h; exact ⟨k, by omega, h2⟩
      · exact ⟨n, by omega, List.mem_singleton.1 h, hc⟩
    · rw [descL_miss hc] at h
      obtain ⟨k, h1, h2⟩ := descL_inS h; exact ⟨k, by omega, h2⟩
theorem descL_all {xs : List Int} : ∀ {n k : Nat}, k < n → nth xs (k + 1) < nth xs k → (k : Int) ∈ descL xs n
  | 0, k, h, _ => absurd h (by omega)
  | n + 1, k, h, hk => by
    by_cases hkn : k = n
    · subst hkn; rw [descL_hit hk]; simp
    · have := descL_all (n := n) (by omega) hk
      by_cases hc : nth xs (n + 1) < nth xs n
      · rw [descL_hit hc]; exact List.mem_append.2 (.inl this)
      · rw [descL_miss hc]; exact this
structure SopF (xs : List Int) (d : Nat) : Prop where
  perm : isPermP xs
  desc : descPerm xs = [(d : Int)]
  lt : d + 1 < xs.length
  up : ∀ i, i < d → nth xs i < nth xs (i + 1)
theorem sop_facts {xs : List Int} (h : sopOk xs = true) : ∃ d, sopD xs = d ∧ SopF xs d := by
  unfold sopOk at h
  have h1 : (descPerm xs).length = 1 := of_decide_eq_true h
  obtain ⟨x, hx⟩ : ∃ x, descPerm xs = [x] := by
    match hd : descPerm xs, h1 with
    | [x], _ => exact ⟨x, rfl⟩
  have hb : isPermB xs = true := by
    cases hb : isPermB xs with
    | true => rfl
    | false => rw [descPerm_no hb] at hx; cases hx
  have hp := isPermB_P hb
  have hdl := hx
  rw [descPerm_yes hb] at hdl
  obtain ⟨d, h2, rfl, h4⟩ := descL_inS (xs := xs) (n := xs.length - 1) (x := x) (by rw [hdl]; simp)
  refine ⟨d, by unfold sopD; rw [hx]; simp [nth], hp, hx, by omega, fun i hi => ?_⟩
  have hne : ¬ nth xs (i + 1) < nth xs i := fun hlt => by
    have := descL_all (xs := xs) (n := xs.length - 1) (k := i) (by omega) hlt
    rw [hdl] at this
    have := List.mem_singleton.1 this
    omega
  have hd : nth xs i ≠ nth xs (i + 1) := fun e => by
    have h5 := (hp.2.2 (i + 1) (by omega)).2.2
    simp only [hasB, decide_eq_false_iff_not] at h5
    apply h5
    rw [← e, ← nth_take (show i < i + 1 by omega), nth_get (by rw [List.length_take]; omega)]
    exact List.getElem_mem _
  omega
theorem sopS_small (xs : List Int) : (sopS xs).length ≤ 1099511627775 := by
  cases hu : sopOk xs with
  | false => rw [(sop_no hu).2]; simp
  | true =>
    obtain ⟨d, hd, hf⟩ := sop_facts hu
    rw [(sop_yes hu hd).2, List.length_take, sopN_len]
    have := hf.lt; have := hf.perm.2.1
    omega
theorem SopF.ge {xs : List Int} {d : Nat} (h : SopF xs d) : ∀ i, i ≤ d → (i : Int) ≤ nth xs i
  | 0, _ => (h.perm.range 0 (by have := h.lt; omega)).1
  | i + 1, hi => by have := h.ge i (by omega); have := h.up i (by omega); omega
theorem SopF.le7 {xs : List Int} {d : Nat} (h : SopF xs d) : d ≤ 5 ∧ ∀ i, i ≤ d → 0 ≤ nth xs i ∧ nth xs i ≤ 6 := by
  have := h.lt; have := h.perm.2.1
  exact ⟨by omega, fun i hi => by have := h.perm.range i (by omega); omega⟩
theorem SopF.nonneg {xs : List Int} {d : Nat} (h : SopF xs d) (j : Nat) : 0 ≤ nth (sopN xs d (d + 1)) j := by
  by_cases hj : j < d + 1
  · rw [sopN_nth hj]; have := h.ge (d - j) (by omega); omega
  · rw [nth_out (by rw [sopN_len]; omega)]; exact Int.le_refl _
theorem SopF.down {xs : List Int} {d : Nat} (h : SopF xs d) : ∀ i j, i ≤ j → nth (sopN xs d (d + 1)) j ≤ nth (sopN xs d (d + 1)) i := by
  have step : ∀ i, nth (sopN xs d (d + 1)) (i + 1) ≤ nth (sopN xs d (d + 1)) i := fun i => by
    by_cases hi : i + 1 < d + 1
    · rw [sopN_nth hi, sopN_nth (by omega)]
      have := h.up (d - (i + 1)) (by omega)
      rw [show d - (i + 1) + 1 = d - i by omega] at this
      omega
    · rw [nth_out (by rw [sopN_len]; omega)]; exact h.nonneg i
  intro i j hij
  induction j with
  | zero => obtain rfl : i = 0 := by omega
            exact Int.le_refl _
  | succ j ih =>
    by_cases hi : i = j + 1
    · subst hi; exact Int.le_refl _
    · exact Int.le_trans (step j) (ih (by omega))
/-- What a call that answers a list, a number and a Bool hands back. -/
def FreshIB (w w' : World) (e : Ending) (ys : List Int) (k : Int) (b : Bool) : Prop :=
  ∃ A n c, e = .returned (.tuple #[.slice A n c, .int .i64 k, .bool b]) ∧ Own w' w.heap.size w'.heap.size A n c ys ∧ Below w.heap.size w w'
theorem FreshIB.nil_ret {w w' : World} (h : Below w.heap.size w w') : FreshIB w w' (.returned (.tuple #[.slice none 0 0, .int .i64 0, .bool false])) [] 0 false := ⟨none, 0, 0, rfl, Own.nil _ _ _, h⟩
/-- The rows when i numbers are taken. -/
def rowP (xs : List Int) (d i : Nat) : List Int := (List.range 16).map fun (t : Nat) => if d < t + i ∧ t ≤ d then nth xs (d - t) - ((d - t : Nat) : Int) else 0
theorem rowP_len (xs : List Int) (d i : Nat) : (rowP xs d i).length = 16 := by simp [rowP]
theorem rowP_nth {xs : List Int} {d i t : Nat} (h : t < 16) : nth (rowP xs d i) t = if d < t + i ∧ t ≤ d then nth xs (d - t) - ((d - t : Nat) : Int) else 0 := by
  rw [nth_get (by rw [rowP_len]; exact h)]; simp [rowP]
theorem rowP_step {xs : List Int} {d i : Nat} (hd : d ≤ 15) (hi : i ≤ d) : (rowP xs d i).set (d - i) (nth xs i - (i : Int)) = rowP xs d (i + 1) := by
  refine list_ext_nth (by simp [rowP_len]) fun k hk => ?_
  have hk' : k < 16 := by simpa [rowP_len] using hk
  rw [nth_set _ (by rw [rowP_len]; omega), rowP_nth hk', rowP_nth hk']
  by_cases h : k = d - i
  · rw [if_pos h, if_pos (by omega), h, show d - (d - i) = i by omega]
  · rw [if_neg h]
    by_cases h2 : d < k + i ∧ k ≤ d
    · rw [if_pos h2, if_pos (by omega)]
    · rw [if_neg h2, if_neg (by omega)]
theorem rowP_zero (xs : List Int) (d : Nat) : arrD (rowP xs d 0) = zero16 := by
  have h : ∀ k, k < 16 → nth (rowP xs d 0) k = 0 := fun k hk => by rw [rowP_nth hk, if_neg (by omega)]
  simp only [arrD, h 0 (by omega), h 1 (by omega), h 2 (by omega), h 3 (by omega), h 4 (by omega), h 5 (by omega), h 6 (by omega), h 7 (by omega), h 8 (by omega), h 9 (by omega), h 10 (by omega), h 11 (by omega), h 12 (by omega), h 13 (by omega), h 14 (by omega), h 15 (by omega)]
theorem rowP_all {xs : List Int} {d : Nat} (hd : d ≤ 15) (k : Nat) : nth (rowP xs d (d + 1)) k = nth (sopN xs d (d + 1)) k := by
  by_cases hk : k < d + 1
  · rw [rowP_nth (by omega), sopN_nth hk, if_pos (by omega)]
  · rw [nth_out (xs := sopN xs d (d + 1)) (by rw [sopN_len]; omega)]
    by_cases h16 : k < 16
    · rw [rowP_nth h16, if_neg (by omega)]
    · rw [nth_out (by rw [rowP_len]; omega)]
theorem load_rows {w : World} {g : Nat} {l : List Int} (h : Blk w g 82 (arrD l)) : (loadVar 82 ⟨g, 0, none⟩).run Try.prog w = .ok (arr16 l) w :=
  run_loadVar_row w g 82 82 (arrD l) (0, 0) _ h Try.undRows rfl (by rw [Try.infoRows]; rfl)
end Go.Proofs.Ytfaegfhbbkicgaa

/-
  Shapes in a box and their permutations, on both sides. Conditions: lengths below 2^40.
-/

namespace Go.Proofs.Ytfaegfhbbkicgaa
open Go.RowKit

/-- Is the list a shape in the box of k and m. -/
def boxP (xs : List Int) (k m : Int) : Prop := 1 ≤ m ∧ m ≤ 7 ∧ 0 ≤ k ∧ k ≤ m ∧ isShapeP xs ∧ (xs.length : Int) ≤ k ∧ nth xs 0 ≤ m - k
def boxB (xs : List Int) (k m : Int) : Bool := decide (1 ≤ m) && decide (m ≤ 7) && decide (0 ≤ k) && decide (k ≤ m) && isShapeB xs && decide ((xs.length : Int) ≤ k) && decide (nth xs 0 ≤ m - k)
theorem boxB_iff (xs : List Int) (k m : Int) : boxB xs k m = true ↔ boxP xs k m := by simp [boxB, boxP, and_assoc, isShapeB_iff]
theorem boxB_P {xs : List Int} {k m : Int} (h : boxB xs k m = true) : boxP xs k m := (boxB_iff _ _ _).1 h
theorem boxB_true {xs : List Int} {k m : Int} (h : boxP xs k m) : boxB xs k m = true := (boxB_iff _ _ _).2 h
theorem boxB_false {xs : List Int} {k m : Int} (h : ¬ boxP xs k m) : boxB xs k m = false := by
  cases hb : boxB xs k m with
  | false => rfl
  | true => exact absurd (boxB_P hb) h
set_option maxHeartbeats 1600000 in
theorem l4Box_any (A : Option Addr) (n c : Nat) (xs : List Int) (k m : Int) (w : World) (hs : SI w A n xs) (hn : n ≤ 1099511627776) :
    Calls Try.prog 64 #[.slice A n c, .int .i64 k, .int .i64 m] w fun e w' => e = .returned (.bool (boxB xs k m)) ∧ Drawn w w' := by
  have HL := Lib.hid hs.1
  by_cases h1 : 1 ≤ m ∧ m ≤ 7
  · have H1 := Lib.hid (fun w => l1In_yes' h1.1 h1.2 w)
    by_cases h2 : 0 ≤ k ∧ k ≤ m
    · have H2 := Lib.hid (fun w => l1In_yes' h2.1 h2.2 w)
      have HI := Lib.hid (specIsShape_any A n c xs w hs hn)
      have HAT := Lib.hid (fun w' (hd : Drawn w w') => l4At_any A n c xs 0 w' (hd.si hs) hn (by omega))
      have hwr : IntKind.i64.wrap (m - k) = m - k := IntWalk.i64_in _ (by omega)
      cases hu : isShapeB xs with
      | false =>
        rw [hu] at HI
        have HF := Lib.hid (boxB_false (xs := xs) (k := k) (m := m) (fun h => by have := isShapeB_true h.2.2.2.2.1; rw [hu] at this; cases this))
        clear hu hs h1 h2
        go_enter Try.func64, Try.ntmps64
        go_wp2_with (first
          | (go_at_call 82; first | ((with_reducible refine (H1.out _).mono ?_); rintro e w1 ⟨rfl, rfl⟩) | ((with_reducible refine (H2.out _).mono ?_); rintro e w1 ⟨rfl, rfl⟩))
          | (go_at_call 96; refine HI.out.mono ?_; rintro e w2 ⟨rfl, hd2⟩; have HD2 := Lib.hid hd2; clear hd2))
        go_ret
        exact ⟨ret_bool HF.out.symm, HD2.out⟩
      | true =>
        rw [hu] at HI
        have hp := isShapeB_P hu
        by_cases h3 : k < (n : Int)
        · have HF := Lib.hid (boxB_false (xs := xs) (k := k) (m := m) (fun h => by have := h.2.2.2.2.2.1; have := HL.out; omega))
          clear hu hs h1 h2 hp
          go_enter Try.func64, Try.ntmps64
          go_wp2_with (first
            | (go_at_call 82; first | ((with_reducible refine (H1.out _).mono ?_); rintro e w1 ⟨rfl, rfl⟩) | ((with_reducible refine (H2.out _).mono ?_); rintro e w1 ⟨rfl, rfl⟩))
            | (go_at_call 96; refine HI.out.mono ?_; rintro e w2 ⟨rfl, hd2⟩; have HD2 := Lib.hid hd2; clear hd2))
          go_ret
          exact ⟨ret_bool HF.out.symm, HD2.out⟩
        · have HV : Hid (boxB xs k m = decide (nth xs 0 ≤ m - k)) := Lib.hid (by
            unfold boxB
            rw [hu, HL.out, decide_eq_true h1.1, decide_eq_true h1.2, decide_eq_true h2.1, decide_eq_true h2.2, decide_eq_true (by omega : (n : Int) ≤ k)]
            simp)
          have h3' : (n : Int) ≤ k := by omega
          obtain ⟨x, hx⟩ : ∃ x, x = nth xs 0 := ⟨_, rfl⟩
          rw [← hx] at HAT HV
          clear hu hs h1 h2 hp hx h3
          go_enter Try.func64, Try.ntmps64
          go_wp2_with (first
            | (go_at_call 82; first | ((with_reducible refine (H1.out _).mono ?_); rintro e w1 ⟨rfl, rfl⟩) | ((with_reducible refine (H2.out _).mono ?_); rintro e w1 ⟨rfl, rfl⟩))
            | (go_at_call 96; refine HI.out.mono ?_; rintro e w2 ⟨rfl, hd2⟩; have HD2 := Lib.hid hd2; clear hd2)
            | (go_at_call 65; refine (HAT.out _ HD2.out).mono ?_; rintro e w3 ⟨rfl, rfl⟩))
          go_ret
          exact ⟨ret_bool HV.out.symm, HD2.out⟩
    · have H2 := Lib.hid (fun w => l1In_no' (a := k) (lo := 0) (hi := m) (by omega) w)
      have HF := Lib.hid (boxB_false (xs := xs) (k := k) (m := m) (fun h => h2 ⟨h.2.2.1, h.2.2.2.1⟩))
      clear hs h1 h2
      go_enter Try.func64, Try.ntmps64
      go_wp2_with (go_at_call 82; first | ((with_reducible refine (H1.out _).mono ?_); rintro e w1 ⟨rfl, rfl⟩) | ((with_reducible refine (H2.out _).mono ?_); rintro e w1 ⟨rfl, rfl⟩))
      go_ret
      exact ⟨ret_bool HF.out.symm, Drawn.refl _⟩
  · have H1 := Lib.hid (fun w => l1In_no' (a := m) (lo := 1) (hi := 7) (by omega) w)
    have HF := Lib.hid (boxB_false (xs := xs) (k := k) (m := m) (fun h => h1 ⟨h.1, h.2.1⟩))
    clear hs h1
    go_enter Try.func64, Try.ntmps64
    go_wp2_with (go_at_call 82; refine (H1.out _).mono ?_; rintro e w1 ⟨rfl, rfl⟩)
    go_ret
    exact ⟨ret_bool HF.out.symm, Drawn.refl _⟩
theorem isBox_any (k m : Int) (w : World) :
    Calls Try.prog 99 #[.int .i64 k, .int .i64 m] w fun e w' => e = .returned (.bool (decide (1 ≤ m ∧ m ≤ 7 ∧ 0 ≤ k ∧ k ≤ m))) ∧ w = w' := by
  by_cases h1 : 1 ≤ m ∧ m ≤ 7
  · have H1 := Lib.hid (fun w => isPermSize_yes h1.1 h1.2 w)
    by_cases h2 : 0 ≤ k
    · rw [show decide (1 ≤ m ∧ m ≤ 7 ∧ 0 ≤ k ∧ k ≤ m) = decide (k ≤ m) by simp [h1.1, h1.2, h2]]
      clear h1
      go_enter Try.func99, Try.ntmps99
      go_wp2_with (go_at_call 157; refine (H1.out _).mono ?_; rintro e w1 ⟨rfl, rfl⟩)
      go_ret
      exact ⟨rfl, rfl⟩
    · rw [decide_eq_false (fun h => h2 h.2.2.1)]
      have h2' : k < 0 := by omega
      clear h1
      go_enter Try.func99, Try.ntmps99
      go_wp2_with (go_at_call 157; refine (H1.out _).mono ?_; rintro e w1 ⟨rfl, rfl⟩)
      go_ret
      exact ⟨rfl, rfl⟩
  · rw [decide_eq_false (fun h => h1 ⟨h.1, h.2.1⟩)]
    have H1 := Lib.hid (fun w => isPermSize_no (a := m) (by omega) w)
    clear h1
    go_enter Try.func99, Try.ntmps99
    go_wp2_with (go_at_call 157; refine (H1.out _).mono ?_; rintro e w1 ⟨rfl, rfl⟩)
    go_ret
    exact ⟨rfl, rfl⟩
set_option maxHeartbeats 1600000 in
theorem fitsInto_any (A : Option Addr) (n c : Nat) (xs : List Int) (k m : Int) (w : World) (hs : SI w A n xs) (hn : n ≤ 1099511627776) :
    Calls Try.prog 67 #[.slice A n c, .int .i64 k, .int .i64 m] w fun e w' => e = .returned (.bool (boxB xs k m)) ∧ Drawn w w' := by
  have HL := Lib.hid hs.1
  have HI := Lib.hid (implIsShape_any A n c xs w hs hn)
  have HB := Lib.hid (fun w => isBox_any k m w)
  cases hu : isShapeB xs with
  | false =>
    rw [hu] at HI
    have HF := Lib.hid (boxB_false (xs := xs) (k := k) (m := m) (fun h => by have := isShapeB_true h.2.2.2.2.1; rw [hu] at this; cases this))
    clear hu hs
    go_enter Try.func67, Try.ntmps67
    go_wp2_with (go_at_call 98; refine HI.out.mono ?_; rintro e w2 ⟨rfl, hd2⟩; have HD2 := Lib.hid hd2; clear hd2)
    go_ret
    exact ⟨ret_bool HF.out.symm, HD2.out⟩
  | true =>
    rw [hu] at HI
    by_cases h1 : 1 ≤ m ∧ m ≤ 7 ∧ 0 ≤ k ∧ k ≤ m
    · rw [decide_eq_true h1] at HB
      by_cases h3 : k < (n : Int)
      · have HF := Lib.hid (boxB_false (xs := xs) (k := k) (m := m) (fun h => by have := h.2.2.2.2.2.1; have := HL.out; omega))
        clear hu hs h1
        go_enter Try.func67, Try.ntmps67
        go_wp2_with (first
          | (go_at_call 98; refine HI.out.mono ?_; rintro e w2 ⟨rfl, hd2⟩; have HD2 := Lib.hid hd2; clear hd2)
          | (go_at_call 99; refine (HB.out _).mono ?_; rintro e w3 ⟨rfl, rfl⟩))
        go_ret
        exact ⟨ret_bool HF.out.symm, HD2.out⟩
      · have h3' : ¬ k < (n : Int) := h3
        have HV : Hid (boxB xs k m = decide (nth xs 0 ≤ m - k)) := Lib.hid (by
            unfold boxB
            rw [hu, HL.out, decide_eq_true h1.1, decide_eq_true h1.2.1, decide_eq_true h1.2.2.1, decide_eq_true h1.2.2.2, decide_eq_true (by omega : (n : Int) ≤ k)]
            simp)
        have hwr : IntKind.i64.wrap (m - k) = m - k := IntWalk.i64_in _ (by omega)
        by_cases h0 : n = 0
        · have HV0 : Hid (boxB xs k m = true) := Lib.hid (by rw [HV.out, nth_out (by rw [HL.out]; omega)]; simp; omega)
          subst h0
          clear hu hs h1 h3
          go_enter Try.func67, Try.ntmps67
          go_wp2_with (first
            | (go_at_call 98; refine HI.out.mono ?_; rintro e w2 ⟨rfl, hd2⟩; have HD2 := Lib.hid hd2; clear hd2)
            | (go_at_call 99; refine (HB.out _).mono ?_; rintro e w3 ⟨rfl, rfl⟩))
          go_ret
          exact ⟨ret_bool HV0.out.symm, HD2.out⟩
        · have h0I : ((n : Int) == 0) = false := by simpa using h0
          obtain ⟨b, o, rfl, hb, hc⟩ := hs.at_ (by omega)
          have hc0 := hc 0 (by omega)
          rw [Nat.add_zero] at hc0
          obtain ⟨x, hx⟩ : ∃ x, x = nth xs 0 := ⟨_, rfl⟩
          rw [← hx] at hc0 HV
          have hnI : (0 : Int) < (n : Int) := by omega
          have HC := Lib.hid hc0
          clear hu hs h1 h3 hc hx h0
          go_enter Try.func67, Try.ntmps67
          go_wp2_with (first
            | (go_at_call 98; refine HI.out.mono ?_; rintro e w2 ⟨rfl, hd2⟩; have HD2 := Lib.hid hd2; have hc2 : w2.cell? ⟨b, o, none⟩ = some (.int .i64 x) := ((hd2.below w.heap.size).cell (p := ⟨b, o, none⟩) hb).trans HC.out; clear hd2)
            | (go_at_call 99; refine (HB.out _).mono ?_; rintro e w3 ⟨rfl, rfl⟩))
          go_ret
          exact ⟨ret_bool HV.out.symm, HD2.out⟩
    · rw [decide_eq_false h1] at HB
      have HF := Lib.hid (boxB_false (xs := xs) (k := k) (m := m) (fun h => h1 ⟨h.1, h.2.1, h.2.2.1, h.2.2.2.1⟩))
      clear hu hs h1
      go_enter Try.func67, Try.ntmps67
      go_wp2_with (first
        | (go_at_call 98; refine HI.out.mono ?_; rintro e w2 ⟨rfl, hd2⟩; have HD2 := Lib.hid hd2; clear hd2)
        | (go_at_call 99; refine (HB.out _).mono ?_; rintro e w3 ⟨rfl, rfl⟩))
      go_ret
      exact ⟨ret_bool HF.out.symm, HD2.out⟩
end Go.Proofs.Ytfaegfhbbkicgaa

/-
  The permutation of a shape in a box, on both sides. Conditions: lengths below 2^40.
-/

namespace Go.Proofs.Ytfaegfhbbkicgaa
open Go.RowKit

/-- The first i numbers of the permutation. -/
def gF (xs : List Int) (k i : Nat) : List Int := (List.range i).map fun (j : Nat) => (j : Int) + nth xs (k - 1 - j)
theorem gF_len (xs : List Int) (k i : Nat) : (gF xs k i).length = i := by simp [gF]
theorem gF_succ (xs : List Int) (k i : Nat) : gF xs k (i + 1) = gF xs k i ++ [(i : Int) + nth xs (k - 1 - i)] := by simp [gF, List.range_succ]
/-- Those below v that are not among them. -/
def gR (F : List Int) : Nat → List Int
  | 0 => []
  | v + 1 => if hasB F (v : Int) = true then gR F v else gR F v ++ [(v : Int)]
theorem gR_len (F : List Int) : ∀ v, (gR F v).length ≤ v
  | 0 => Nat.le_refl _
  | v + 1 => by
    have := gR_len F v
    unfold gR
    split
    · omega
    · rw [List.length_append]; simp; omega
theorem gR_lt (F : List Int) : ∀ v : Nat, ∀ x ∈ gR F v, x < (v : Int)
  | 0, x, hx => by simp [gR] at hx
  | v + 1, x, hx => by
    unfold gR at hx
    split at hx
    · have := gR_lt F v x hx; omega
    · rcases List.mem_append.1 hx with hx | hx
      · have := gR_lt F v x hx; omega
      · rw [List.mem_singleton.1 hx]; omega
theorem gR_has (F : List Int) (v : Nat) : hasB (F ++ gR F v) (v : Int) = hasB F (v : Int) := by
  unfold hasB
  have h : (v : Int) ∉ gR F v := fun h => absurd (gR_lt F v _ h) (by omega)
  exact decide_eq_decide.2 ⟨fun h' => (List.mem_append.1 h').resolve_right h, fun h' => List.mem_append.2 (.inl h')⟩
def gL (xs : List Int) (k m : Nat) : List Int := gF xs k k ++ gR (gF xs k k) m
/-- What GrassmannianPerm answers. -/
def graPerm (xs : List Int) (k m : Int) : List Int := if boxB xs k m = true then gL xs k.toNat m.toNat else []
theorem graPerm_no {xs : List Int} {k m : Int} (h : boxB xs k m = false) : graPerm xs k m = [] := by unfold graPerm; rw [if_neg (by rw [h]; decide)]
theorem graPerm_yes {xs : List Int} {k m : Nat} (h : boxB xs (k : Int) (m : Int) = true) : graPerm xs (k : Int) (m : Int) = gL xs k m := by unfold graPerm; rw [if_pos h, Int.toNat_natCast, Int.toNat_natCast]
theorem graPerm_small (xs : List Int) (k m : Int) : (graPerm xs k m).length ≤ 1099511627775 := by
  unfold graPerm
  split
  · rename_i h
    have hp := boxB_P h
    have := gR_len (gF xs k.toNat k.toNat) m.toNat
    unfold gL
    rw [List.length_append, gF_len]
    have h1 := hp.2.1; have h2 := hp.2.2.2.1
    omega
  · simp
theorem l4At_at {j : Int} (A : Option Addr) (n c : Nat) (xs : List Int) (i : Nat) (hj : j = (i : Int)) (w : World) (hs : SI w A n xs) (hn : n ≤ 1099511627776) (hi : i ≤ 1099511627776) {x : Int} (hx : x = nth xs i) :
    Calls Try.prog 65 #[.slice A n c, .int .i64 j] w fun e w' => e = .returned (.int .i64 x) ∧ w = w' := by
  subst hj; subst hx; exact l4At_any A n c xs i w hs hn hi
/-- 'make([]int, 0, n)'. -/
theorem wpList_make_cap {ops : Array Oper} {rest : List Oper} {o : Oper} {a : Act} {w : World} {Q : Exit → Act → World → Prop} (hgd : o.guard = none) (l c : Operand) (ho : o.op = .makeSlice 22 l c)
    (n : Nat) (hl : a.eval l = .int .i64 0) (hc : a.eval c = .int .i64 n) (hn : n ≤ 1099511627776)
    (hK : ∀ w', Own w' w.heap.size w'.heap.size (some ⟨w.heap.size, 0, none⟩) 0 n [] → Below w.heap.size w w' → wpList Try.prog ops Q rest (a.put o.dst (.slice (some ⟨w.heap.size, 0, none⟩) 0 n)) w') :
    wpList Try.prog ops Q (o :: rest) a w := by
  obtain ⟨i0, hi, hz0, hz1, hz2⟩ := info_parts Try.infoInt
  refine wpList_make_own w hgd l c 22 ho w.heap.size 3 i0 (.int .i64 0) 1 Try.underlying22 hi hz0 hz1 .i64 .i64 n n hl hc rfl (by rw [hz2]; omega) (by unfold maxLen; omega) (Nat.le_refl _) ?_
  intro w1 ho1 hg1
  exact hK w1 (Own.of (by simpa using ho1)) (grow_below hg1 (Nat.le_refl _) (by intro k hk; cases hk))
set_option maxHeartbeats 800000 in
theorem indexInts_any (A : Option Addr) (n c : Nat) (xs : List Int) (x : Int) (w : World) (hs : SI w A n xs) (hn : n ≤ 1099511627776) :
    Calls Try.prog 188 #[.slice A n c, .int .i64 x] w fun r w' => ∃ i : Int, r = .returned (.int .i64 i) ∧ (0 ≤ i ↔ hasB xs x = true) ∧ Drawn w w' := by
  have HL := Lib.hid hs.1
  go_enter Try.func188, Try.ntmps188
  go_wp2
  go_loopw [8] (fun i wr => ∃ k : Nat, k ≤ n ∧ i = .int .i64 k ∧ Drawn w wr ∧ ∀ j, j < k → nth xs j ≠ x)
    (fun i _ => n - (intOf i).toNat)
  case atStart => exact ⟨0, Nat.zero_le _, rfl, Drawn.refl _, fun j hj => absurd hj (by omega)⟩
  case round =>
    obtain ⟨k, hk, rfl, hD, hall⟩ := hrel
    have HA := Lib.hid hall
    have HDR := Lib.hid hD
    have hs := hD.si hs
    clear hall hD
    by_cases hlt : k < n
    · have hlI : (k : Int) < (n : Int) := by omega
      obtain ⟨b, o, rfl, hb, hc⟩ := hs.at_ (by omega)
      have hc1 := hc k hlt
      obtain ⟨y, hy⟩ : ∃ y, y = nth xs k := ⟨_, rfl⟩
      rw [← hy] at hc1
      have HY := Lib.hid hy
      clear hc hs hy
      by_cases heq : x = y
      · subst heq
        go_wp2
        go_ret
        exact ⟨(k : Int), rfl, ⟨fun _ => by rw [HY.out]; exact hasB_hit (by rw [HL.out]; exact hlt), fun _ => by omega⟩, HDR.out⟩
      · have hb : (x == y) = false := by simpa using heq
        have HN := Lib.hid heq
        clear heq
        go_wp2
        go_roundw
        case rel => exact ⟨k + 1, by omega, by go_num, HDR.out, fun j hj => by
          rcases Nat.lt_or_ge j k with h | h
          · exact HA.out j h
          · obtain rfl : j = k := by omega
            exact fun h => HN.out (by rw [HY.out, h])⟩
        case measure => simp [intOf]; omega
    · have hkn : k = n := by omega
      subst hkn
      go_wp2
      go_ret
      exact ⟨-1, rfl, ⟨fun h => absurd h (by decide), fun h => by rw [hasB_all (by rw [HL.out]; exact HA.out)] at h; cases h⟩, HDR.out⟩
set_option maxHeartbeats 400000 in
theorem containsInts_any (A : Option Addr) (n c : Nat) (xs : List Int) (x : Int) (w : World) (hs : SI w A n xs) (hn : n ≤ 1099511627776) :
    Calls Try.prog 155 #[.slice A n c, .int .i64 x] w fun r w' => r = .returned (.bool (hasB xs x)) ∧ Drawn w w' := by
  have HC := Lib.hid (indexInts_any A n c xs x w hs hn)
  clear hs
  go_enter Try.func155, Try.ntmps155
  go_wp2_with (go_at_call 188; refine HC.out.mono ?_; rintro r w2 ⟨i, rfl, hi, hd⟩; have HI := Lib.hid hi; have HD := Lib.hid hd; clear hi hd)
  go_ret
  refine ⟨ret_bool ?_, HD.out⟩
  have := HI.out
  cases hu : hasB xs x with
  | true => rw [hu] at this; simpa using this.2 rfl
  | false => rw [hu] at this; simp at this ⊢; omega
end Go.Proofs.Ytfaegfhbbkicgaa

/-
  Strings of zeros and ones and their shapes: the model of both sides. No conditions.
-/


namespace Go.Proofs.Ytfaegfhbbkicgaa
open Go.RowKit

/-- Is the list a string. -/
def strP (xs : List Int) : Prop := 1 ≤ xs.length ∧ xs.length ≤ 7 ∧ ∀ k, k < xs.length → 0 ≤ nth xs k ∧ nth xs k ≤ 1
def strB (xs : List Int) : Bool := decide (1 ≤ xs.length) && decide (xs.length ≤ 7) && (List.range xs.length).all fun k => decide (0 ≤ nth xs k ∧ nth xs k ≤ 1)
theorem strB_iff (xs : List Int) : strB xs = true ↔ strP xs := by simp [strB, strP, and_assoc]
theorem strB_P {xs : List Int} (h : strB xs = true) : strP xs := (strB_iff xs).1 h
theorem strB_true {xs : List Int} (h : strP xs) : strB xs = true := (strB_iff xs).2 h
theorem strB_false {xs : List Int} (h : ¬ strP xs) : strB xs = false := by
  cases hb : strB xs with
  | false => rfl
  | true => exact absurd (strB_P hb) h
/-- How many zeros, how many others there are among the first k numbers. -/
def zerN (xs : List Int) : Nat → Nat
  | 0 => 0
  | k + 1 => if nth xs k = 0 then zerN xs k + 1 else zerN xs k
def oneN (xs : List Int) : Nat → Nat
  | 0 => 0
  | k + 1 => if nth xs k = 0 then oneN xs k else oneN xs k + 1
theorem zer_one (xs : List Int) : ∀ k, zerN xs k + oneN xs k = k
  | 0 => rfl
  | k + 1 => by have := zer_one xs k; unfold zerN oneN; split <;> omega
theorem one_le (xs : List Int) : ∀ {j k : Nat}, j ≤ k → oneN xs j ≤ oneN xs k
  | j, 0, h => by obtain rfl : j = 0 := by omega
                  exact Nat.le_refl _
  | j, k + 1, h => by
    by_cases e : j = k + 1
    · subst e; exact Nat.le_refl _
    · have := one_le xs (j := j) (k := k) (by omega)
      have e2 : oneN xs (k + 1) = if nth xs k = 0 then oneN xs k else oneN xs k + 1 := rfl
      rw [e2]
      split <;> omega
theorem sum_one {xs : List Int} : ∀ {k : Nat}, (∀ j, j < k → 0 ≤ nth xs j ∧ nth xs j ≤ 1) → sumN xs k = (oneN xs k : Int)
  | 0, _ => rfl
  | k + 1, h => by
    have h1 := sum_one (k := k) fun j hj => h j (by omega)
    have h2 := h k (by omega)
    have e : sumN xs (k + 1) = sumN xs k + nth xs k := rfl
    have e2 : oneN xs (k + 1) = if nth xs k = 0 then oneN xs k else oneN xs k + 1 := rfl
    rw [e, e2, h1]
    split <;> omega
/-- A row for each one, the last one's first. -/
def shpL (xs : List Int) : Nat → List Int
  | 0 => []
  | k + 1 => if nth xs k = 0 then shpL xs k else (zerN xs k : Int) :: shpL xs k
theorem shpL_zero {xs : List Int} {k : Nat} (h : nth xs k = 0) : shpL xs (k + 1) = shpL xs k := if_pos h
theorem shpL_one {xs : List Int} {k : Nat} (h : nth xs k ≠ 0) : shpL xs (k + 1) = (zerN xs k : Int) :: shpL xs k := if_neg h
theorem zerN_zero {xs : List Int} {k : Nat} (h : nth xs k = 0) : zerN xs (k + 1) = zerN xs k + 1 := if_pos h
theorem zerN_one {xs : List Int} {k : Nat} (h : nth xs k ≠ 0) : zerN xs (k + 1) = zerN xs k := if_neg h
theorem oneN_zero {xs : List Int} {k : Nat} (h : nth xs k = 0) : oneN xs (k + 1) = oneN xs k := if_pos h
theorem oneN_one {xs : List Int} {k : Nat} (h : nth xs k ≠ 0) : oneN xs (k + 1) = oneN xs k + 1 := if_neg h
theorem shpL_len (xs : List Int) : ∀ k, (shpL xs k).length = oneN xs k
  | 0 => rfl
  | k + 1 => by
    by_cases h : nth xs k = 0
    · rw [shpL_zero h, oneN_zero h, shpL_len xs k]
    · rw [shpL_one h, oneN_one h, List.length_cons, shpL_len xs k]
theorem nth_cons0 (x : Int) (l : List Int) : nth (x :: l) 0 = x := rfl
theorem nth_consS (x : Int) (l : List Int) (j : Nat) : nth (x :: l) (j + 1) = nth l j := by simp [nth, List.getD]
theorem shpL_range (xs : List Int) : ∀ k j, 0 ≤ nth (shpL xs k) j ∧ nth (shpL xs k) j ≤ (zerN xs k : Int)
  | 0, j => by simp [shpL, nth, zerN]
  | k + 1, j => by
    have ih := shpL_range xs k
    by_cases h : nth xs k = 0
    · rw [shpL_zero h, zerN_zero h]
      have := ih j
      omega
    · rw [shpL_one h, zerN_one h]
      cases j with
      | zero => rw [nth_cons0]; omega
      | succ j => rw [nth_consS]; exact ih j
theorem shpL_down (xs : List Int) : ∀ k i j, i ≤ j → nth (shpL xs k) j ≤ nth (shpL xs k) i
  | 0, i, j, _ => by simp [shpL, nth]
  | k + 1, i, j, hij => by
    have ih := shpL_down xs k
    by_cases h : nth xs k = 0
    · rw [shpL_zero h]; exact ih i j hij
    · rw [shpL_one h]
      cases i with
      | zero =>
        rw [nth_cons0]
        cases j with
        | zero => rw [nth_cons0]; exact Int.le_refl _
        | succ j => rw [nth_consS]; exact (shpL_range xs k j).2
      | succ i =>
        cases j with
        | zero => omega
        | succ j => rw [nth_consS, nth_consS]; exact ih i j (by omega)
/-- The sixteen places when j numbers are read: n numbers in all. -/
def rowL (xs : List Int) (n j : Nat) : List Int := List.replicate (oneN xs n - oneN xs j) 0 ++ (shpL xs j ++ List.replicate (16 - oneN xs n) 0)
theorem rowL_len {xs : List Int} {n j : Nat} (hj : j ≤ n) (hn : n ≤ 16) : (rowL xs n j).length = 16 := by
  have h1 := one_le xs hj
  have h2 := zer_one xs n
  unfold rowL
  rw [List.length_append, List.length_append, List.length_replicate, List.length_replicate, shpL_len]
  omega
theorem rowL_start {xs : List Int} {n : Nat} (hn : n ≤ 16) : rowL xs n 0 = List.replicate 16 0 := by
  have h2 := zer_one xs n
  show List.replicate (oneN xs n - 0) 0 ++ ([] ++ List.replicate (16 - oneN xs n) 0) = _
  rw [List.nil_append, List.replicate_append_replicate]
  congr 1; omega
theorem rowL_same {xs : List Int} {n j : Nat} (h : nth xs j = 0) : rowL xs n (j + 1) = rowL xs n j := by
  unfold rowL; rw [shpL_zero h, oneN_zero h]
theorem rowL_set {xs : List Int} {n j : Nat} (hj : j < n) (h : nth xs j ≠ 0) : (rowL xs n j).set (oneN xs n - oneN xs j - 1) (zerN xs j : Int) = rowL xs n (j + 1) := by
  have h1 := one_le xs (j := j + 1) (k := n) hj
  rw [oneN_one h] at h1
  unfold rowL
  rw [shpL_one h, oneN_one h]
  have e : oneN xs n - oneN xs j = (oneN xs n - (oneN xs j + 1)) + 1 := by omega
  rw [e, List.replicate_succ', Nat.add_sub_cancel, List.append_assoc, List.set_append_right _ _ (by simp)]
  simp
theorem rowL_end (xs : List Int) (n : Nat) : rowL xs n n = shpL xs n ++ List.replicate (16 - oneN xs n) 0 := by unfold rowL; simp
theorem rowL_nth (xs : List Int) (n k : Nat) : nth (rowL xs n n) k = nth (shpL xs n) k := by
  rw [rowL_end]
  by_cases h : k < (shpL xs n).length
  · simp [nth, List.getD, List.getElem?_append, h]
  · rw [nth_out (xs := shpL xs n) (by omega)]
    unfold nth
    rw [List.getD_eq_getElem?_getD, List.getElem?_append_right (by omega), List.getElem?_replicate]
    split <;> rfl
/-- The rows of a string. -/
def bareS (xs : List Int) (n : Nat) : List Int := (shpL xs n).take (bareN (shpL xs n) (oneN xs n))
/-- What ShapeOfString answers. -/
def sosS (xs : List Int) : List Int := if strB xs = true then bareS xs xs.length else []
def sosK (xs : List Int) : Int := if strB xs = true then (oneN xs xs.length : Int) else 0
theorem sos_no {xs : List Int} (h : strB xs = false) : sosS xs = [] ∧ sosK xs = 0 := by unfold sosS sosK; rw [if_neg (by rw [h]; decide), if_neg (by rw [h]; decide)]; exact ⟨rfl, rfl⟩
theorem sos_yes {xs : List Int} (h : strB xs = true) : sosS xs = bareS xs xs.length ∧ sosK xs = (oneN xs xs.length : Int) := by unfold sosS sosK; rw [if_pos h, if_pos h]; exact ⟨rfl, rfl⟩
theorem sosS_small (xs : List Int) : (sosS xs).length ≤ 1099511627775 := by
  unfold sosS
  split
  · rename_i h
    have h7 := (strB_P h).2.1
    have h1 := zer_one xs xs.length
    unfold bareS
    rw [List.length_take, shpL_len]
    omega
  · simp
/-- The string of a shape when i ones are written. -/
def soF (xs : List Int) (k m : Nat) : Nat → List Int
  | 0 => List.replicate m 0
  | i + 1 => (soF xs k m i).set ((i : Int) + nth xs (k - 1 - i)).toNat 1
theorem soF_len (xs : List Int) (k m : Nat) : ∀ i, (soF xs k m i).length = m
  | 0 => by simp [soF]
  | i + 1 => by unfold soF; rw [List.length_set]; exact soF_len xs k m i
/-- What StringOfShape answers. -/
def strOf (xs : List Int) (k m : Int) : List Int := if boxB xs k m = true then soF xs k.toNat m.toNat k.toNat else []
theorem strOf_no {xs : List Int} {k m : Int} (h : boxB xs k m = false) : strOf xs k m = [] := by unfold strOf; rw [if_neg (by rw [h]; decide)]
theorem strOf_yes {xs : List Int} {k m : Nat} (h : boxB xs (k : Int) (m : Int) = true) : strOf xs (k : Int) (m : Int) = soF xs k m k := by unfold strOf; rw [if_pos h, Int.toNat_natCast, Int.toNat_natCast]
theorem strOf_small (xs : List Int) (k m : Int) : (strOf xs k m).length ≤ 1099511627775 := by
  unfold strOf
  split
  · rename_i h
    have hp := boxB_P h
    rw [soF_len]
    have := hp.2.1
    omega
  · simp
theorem box_place {xs : List Int} {k m i : Nat} (hp : boxP xs (k : Int) (m : Int)) (hi : i < k) : 0 ≤ (i : Int) + nth xs (k - 1 - i) ∧ (i : Int) + nth xs (k - 1 - i) < (m : Int) := by
  have hs := hp.2.2.2.2.1
  have h0 := (shape_range hs (k - 1 - i)).1
  have h1 : ∀ t, nth xs t ≤ (m : Int) - (k : Int) := by
    intro t
    induction t with
    | zero => exact hp.2.2.2.2.2.2
    | succ t ih =>
      by_cases h : t + 1 < xs.length
      · have h2 := (hs.2 (t + 1) h).2
        have e : prevS xs (t + 1) = nth xs t := rfl
        omega
      · rw [nth_out (by omega)]
        have := hp.2.2.2.1
        omega
  have := h1 (k - 1 - i)
  omega
end Go.Proofs.Ytfaegfhbbkicgaa
