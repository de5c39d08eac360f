/-
  Keys of exponents and comparison of terms, on both sides. No conditions but the exponents' bounds.
-/
import Derived.Test.YthmnaakaogpohaaTermEq
import Derived.Test.YthmnaakaogpohaaPermImpl
import Derived.Test.YthmnaakaogpohaaGrew
import Derived.Deep.MidRow
namespace Go.Proofs.Ythmnaakaogpohaa
open Go.RowKit

theorem nth_drop (e : List Int) (m k : Nat) : nth (e.drop m) k = nth e (m + k) := by simp [nth, List.getD]
theorem keyD {e : List Int} (hl : e.length = 7) (hs : smallE e = true) (m : Nat) : 0 ≤ key7 (e.drop m) ∧ key7 (e.drop m) ≤ 562949953421312 := by
  have h := key7_bound (e.drop m) (fun k hk => by rw [nth_drop]; exact smallE_nth hs (by simp at hk; omega))
  have h1 : (128 : Int) ^ (e.drop m).length ≤ 562949953421312 := by
    have : (e.drop m).length ≤ 7 := by simp; omega
    generalize (e.drop m).length = q at this
    match q, this with
    | 0, _ | 1, _ | 2, _ | 3, _ | 4, _ | 5, _ | 6, _ | 7, _ => decide
  omega
/-- What comparing two numbers answers. -/
def cmpI (x y : Int) : Int := if x < y then -1 else if y < x then 1 else 0
theorem isNaN_any (x : Int) (w : World) : Calls Try.prog 121 #[.int .i64 x] w fun r w' => r = .returned (.bool false) ∧ w' = w := by
  go_enter Try.func121, Try.ntmps121
  go_wp2
  go_ret
  exact ⟨rfl, rfl⟩
theorem compare_any (x y : Int) (w : World) : Calls Try.prog 88 #[.int .i64 x, .int .i64 y] w fun r w' => r = .returned (.int .i64 (cmpI x y)) ∧ w' = w := by
  unfold cmpI
  by_cases h1 : x < y
  · rw [if_pos h1]
    go_enter Try.func88, Try.ntmps88
    go_wp2_with (go_at_call 121; refine (isNaN_any _ _).mono ?_; rintro e w1 ⟨rfl, rfl⟩)
    go_ret
    exact ⟨rfl, rfl⟩
  · rw [if_neg h1]
    by_cases h2 : y < x
    · rw [if_pos h2]
      go_enter Try.func88, Try.ntmps88
      go_wp2_with (go_at_call 121; refine (isNaN_any _ _).mono ?_; rintro e w1 ⟨rfl, rfl⟩)
      go_ret
      exact ⟨rfl, rfl⟩
    · rw [if_neg h2]
      go_enter Try.func88, Try.ntmps88
      go_wp2_with (go_at_call 121; refine (isNaN_any _ _).mono ?_; rintro e w1 ⟨rfl, rfl⟩)
      go_ret
      exact ⟨rfl, rfl⟩

theorem compare_q (x y : Int) (w : World) : Calls Try.prog 88 #[.int .i64 x, .int .i64 y] w fun r w' => r = .returned (.int .i64 (cmpI x y)) ∧ Drawn w w' :=
  (compare_any x y w).mono fun _ _ ⟨he, hw⟩ => ⟨he, hw ▸ Drawn.refl _⟩
/-- What comparing two terms answers: the greater key stands first. -/
def cmpK (a b : List Int) : Int := if key7 b < key7 a then -1 else if key7 a < key7 b then 1 else 0
theorem smallE_P {e : List Int} (h : smallE e = true) : ∀ k, k < e.length → 0 ≤ nth e k ∧ nth e k ≤ 127 := fun _ hk => by have := smallE_nth h hk; omega
/-- What comparing two lists of exponents answers: from the last one, the greater one stands first. -/
def cmpX (xs ys : List Int) : Nat → Int
  | 0 => 0
  | m + 1 => if nth xs m = nth ys m then cmpX xs ys m else cmpI (nth ys m) (nth xs m)
theorem cmpX_eq {xs ys : List Int} {m : Nat} (h : nth xs m = nth ys m) : cmpX xs ys (m + 1) = cmpX xs ys m := by
  show (if nth xs m = nth ys m then cmpX xs ys m else cmpI (nth ys m) (nth xs m)) = _; rw [if_pos h]
theorem cmpX_ne {xs ys : List Int} {m : Nat} (h : ¬ nth xs m = nth ys m) : cmpX xs ys (m + 1) = cmpI (nth ys m) (nth xs m) := by
  show (if nth xs m = nth ys m then cmpX xs ys m else cmpI (nth ys m) (nth xs m)) = _; rw [if_neg h]
theorem cmpK_eq {a b : List Int} (hl : a.length = b.length) (h : ∀ j, j < a.length → nth a j = nth b j) : cmpK a b = 0 := by
  have e : a = b := by
    apply List.ext_getElem hl
    intro j h1 h2
    have := h j h1
    rwa [nth_get h1, nth_get h2] at this
  subst e
  unfold cmpK
  rw [if_neg (by omega), if_neg (by omega)]
theorem cmpK_ne {a b : List Int} {i : Nat} (ha : a.length = 7) (hb : b.length = 7) (sa : ∀ k, k < 7 → 0 ≤ nth a k ∧ nth a k ≤ 127) (sb : ∀ k, k < 7 → 0 ≤ nth b k ∧ nth b k ≤ 127) (hi : i < 7) (h : ∀ j, i < j → j < 7 → nth a j = nth b j) (hne : nth a i ≠ nth b i) :
    cmpK a b = cmpI (nth b i) (nth a i) := by
  unfold cmpK cmpI
  by_cases h1 : nth b i < nth a i
  · have := key7_lt b a i (by omega) (by rw [hb]; exact sb) (by rw [ha]; exact sa) (by omega) (fun j h1 h2 => (h j h1 (by omega)).symm) h1
    rw [if_pos this, if_pos h1]
  · have := key7_lt a b i (by omega) (by rw [ha]; exact sa) (by rw [hb]; exact sb) (by omega) (fun j h1 h2 => h j h1 (by omega)) (by omega)
    rw [if_neg (by omega), if_pos this, if_neg h1, if_pos (by omega)]
theorem cmpX_key {a b : List Int} (ha : a.length = 7) (hb : b.length = 7) (sa : ∀ k, k < 7 → 0 ≤ nth a k ∧ nth a k ≤ 127) (sb : ∀ k, k < 7 → 0 ≤ nth b k ∧ nth b k ≤ 127) :
    ∀ m, m ≤ 7 → (∀ j, m ≤ j → j < 7 → nth a j = nth b j) → cmpX a b m = cmpK a b
  | 0, _, h => (cmpK_eq (by omega) fun j hj => h j (by omega) (by omega)).symm
  | m + 1, hm, h => by
    by_cases e : nth a m = nth b m
    · rw [cmpX_eq e]
      exact cmpX_key ha hb sa sb m (by omega) fun j h1 h2 => by
        rcases Nat.lt_or_ge m j with h3 | h3
        · exact h j (by omega) h2
        · obtain rfl : j = m := by omega
          exact e
    · rw [cmpX_ne e]
      exact (cmpK_ne ha hb sa sb (by omega) (fun j h1 h2 => h j (by omega) h2) e).symm

theorem arrC_map {l : List Int} (hl : l.length = 7) : arrC l = (l.map (Value.int .i64)).toArray := by
  match l, hl with
  | [a, b, c, d, e, f, g], _ => rfl
theorem quiet_loadcell1 {C : World → Prop} {a : Act} {o : Oper} {K : Act → Prop} (ty : TypeId) (x : Operand) (ho : o.op = .load ty x) (b off : Nat) (hx : a.eval x = .pointer (some ⟨b, off, none⟩)) (v : Value)
    (hb : ∀ w, C w → w.cell? ⟨b, off, none⟩ = some v) (hu : ty = 24) (hk : K (a.put o.dst v)) : o.quiet Try.prog a C K :=
  ⟨_, fun w hw => by
    subst hu
    have hc := hb w hw
    have hl : (loadVar 24 ⟨b, off, none⟩).run Try.prog w = .ok v w := by
      simp [loadVar, isAgg, underlying, Try.underlying24, hc, Result.andThen]
    unfold Oper.quietAt execOp
    simp only [ho, hx, Instr.loadAt, Instr.sureAddr, Sem.run_bind, Sem.run_pure, Result.andThen_ok, hl]
    exact ⟨rfl, rfl⟩, hk⟩
/-- A load at a class of worlds, the load's own run given. -/
theorem quiet_loadrun {C : World → Prop} {a : Act} {o : Oper} {K : Act → Prop} (ty : TypeId) (x : Operand) (ho : o.op = .load ty x) (b off : Nat) (hx : a.eval x = .pointer (some ⟨b, off, none⟩)) (v : Value)
    (hb : ∀ w, C w → (loadVar ty ⟨b, off, none⟩).run Try.prog w = .ok v w) (hk : K (a.put o.dst v)) : o.quiet Try.prog a C K :=
  ⟨_, fun w hw => by
    have hl := hb w hw
    unfold Oper.quietAt execOp
    simp only [ho, hx, Instr.loadAt, Instr.sureAddr, Sem.run_bind, Sem.run_pure, Result.andThen_ok, hl]
    exact ⟨rfl, rfl⟩, hk⟩
end Go.Proofs.Ythmnaakaogpohaa
