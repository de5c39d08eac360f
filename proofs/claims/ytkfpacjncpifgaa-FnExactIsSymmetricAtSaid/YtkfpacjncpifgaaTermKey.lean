/-
  Keys of exponents and comparison of terms, on both sides. No conditions but the exponents' bounds.
-/
import Derived.Test.YtkfpacjncpifgaaTermEq
import Derived.Test.YtkfpacjncpifgaaPermImpl
import Derived.Test.YtkfpacjncpifgaaGrew
import Derived.Deep.MidRow
namespace Go.Proofs.Ytkfpacjncpifgaa
open Go.RowKit

theorem nth_drop (e : List Int) (m k : Nat) : nth (e.drop m) k = nth e (m + k) := by simp [nth, List.getD]
theorem keyD {e : List Int} (hl : e.length = 7) (hs : smallE e = true) (m : Nat) : 0 ≤ key7 (e.drop m) ∧ key7 (e.drop m) ≤ 562949953421312 := by
  have h := key7_bound (e.drop m) (fun k hk => by rw [nth_drop]; exact smallE_nth hs (by simp at hk; omega))
  have h1 : (128 : Int) ^ (e.drop m).length ≤ 562949953421312 := by
    have : (e.drop m).length ≤ 7 := by simp; omega
    generalize (e.drop m).length = q at this
    match q, this with
    | 0, _ | 1, _ | 2, _ | 3, _ | 4, _ | 5, _ | 6, _ | 7, _ => decide
  omega
set_option maxHeartbeats 400000 in
theorem l2Key_any (A : Option Addr) (c : Nat) (e : List Int) (w : World) (hs : SI w A 7 e) (hsm : smallE e = true) :
    Calls Try.prog 113 #[.slice A 7 c] w fun r w' => r = .returned (.int .i64 (key7 e)) ∧ Drawn w w' := by
  have hl := hs.1
  have HK := Lib.hid (keyD hl hsm)
  have HS := Lib.hid hsm
  have HL := Lib.hid hl
  clear hl hsm
  go_enter Try.func113, Try.ntmps113
  go_wp2
  go_loopw [3, 4] (fun v i wr => ∃ m : Nat, m ≤ 7 ∧ i = .int .i64 ((m : Int) - 1) ∧ v = .int .i64 (key7 (e.drop m)) ∧ Drawn w wr)
    (fun _ i _ => (intOf i + 1).toNat)
  case atStart => exact ⟨7, by omega, by go_num, by rw [List.drop_of_length_le (by rw [HL.out]; omega)]; rfl, Drawn.refl _⟩
  case round =>
    obtain ⟨m, hm, rfl, rfl, hD⟩ := hrel
    have hs := hD.si hs
    have HD := Lib.hid hD
    clear hD
    by_cases h0 : 0 < m
    · obtain ⟨k, rfl⟩ : ∃ k, m = k + 1 := ⟨m - 1, by omega⟩
      obtain ⟨b, o, rfl, hb, hc⟩ := hs.at_ (by omega)
      have hc1 := hc k (by omega)
      have hx1 := smallE_nth HS.out (k := k) (by rw [HL.out]; omega)
      have hv := HK.out (k + 1)
      have he := key7_drop (e := e) (i := k) (by rw [HL.out]; omega)
      obtain ⟨x, hx⟩ : ∃ x, x = nth e k := ⟨_, rfl⟩
      obtain ⟨y, hy⟩ : ∃ y, y = key7 (e.drop (k + 1)) := ⟨_, rfl⟩
      rw [← hx] at hc1 hx1 he
      rw [← hy] at hv he ⊢
      have HE := Lib.hid he
      obtain ⟨hx0, hx2⟩ := hx1
      obtain ⟨hv0, hv1⟩ := hv
      have hi : ((k + 1 : Nat) : Int) - 1 = (k : Int) := by omega
      rw [hi]
      have hw1 : IntKind.i64.wrap (y * 128) = y * 128 := IntWalk.i64_in _ (by omega)
      have hw2 : IntKind.i64.wrap (y * 128 + x) = y * 128 + x := IntWalk.i64_in _ (by omega)
      clear hc hs hx hy he hi
      go_wp2
      go_roundw
      case rel => exact ⟨k, by omega, by go_num, by rw [HE.out], HD.out⟩
      case measure => simp [intOf]
    · have hm0 : m = 0 := by omega
      subst hm0
      go_wp2
      go_ret
      exact ⟨rfl, HD.out⟩

/-- What comparing two numbers answers. -/
def cmpI (x y : Int) : Int := if x < y then -1 else if y < x then 1 else 0
theorem isNaN_any (x : Int) (w : World) : Calls Try.prog 157 #[.int .i64 x] w fun r w' => r = .returned (.bool false) ∧ w' = w := by
  go_enter Try.func157, Try.ntmps157
  go_wp2
  go_ret
  exact ⟨rfl, rfl⟩
theorem compare_any (x y : Int) (w : World) : Calls Try.prog 130 #[.int .i64 x, .int .i64 y] w fun r w' => r = .returned (.int .i64 (cmpI x y)) ∧ w' = w := by
  unfold cmpI
  by_cases h1 : x < y
  · rw [if_pos h1]
    go_enter Try.func130, Try.ntmps130
    go_wp2_with (go_at_call 157; refine (isNaN_any _ _).mono ?_; rintro e w1 ⟨rfl, rfl⟩)
    go_ret
    exact ⟨rfl, rfl⟩
  · rw [if_neg h1]
    by_cases h2 : y < x
    · rw [if_pos h2]
      go_enter Try.func130, Try.ntmps130
      go_wp2_with (go_at_call 157; refine (isNaN_any _ _).mono ?_; rintro e w1 ⟨rfl, rfl⟩)
      go_ret
      exact ⟨rfl, rfl⟩
    · rw [if_neg h2]
      go_enter Try.func130, Try.ntmps130
      go_wp2_with (go_at_call 157; refine (isNaN_any _ _).mono ?_; rintro e w1 ⟨rfl, rfl⟩)
      go_ret
      exact ⟨rfl, rfl⟩

theorem compare_q (x y : Int) (w : World) : Calls Try.prog 130 #[.int .i64 x, .int .i64 y] w fun r w' => r = .returned (.int .i64 (cmpI x y)) ∧ Drawn w w' :=
  (compare_any x y w).mono fun _ _ ⟨he, hw⟩ => ⟨he, hw ▸ Drawn.refl _⟩
/-- What comparing two terms answers: the greater key stands first. -/
def cmpK (a b : List Int) : Int := if key7 b < key7 a then -1 else if key7 a < key7 b then 1 else 0
theorem smallE_P {e : List Int} (h : smallE e = true) : ∀ k, k < e.length → 0 ≤ nth e k ∧ nth e k ≤ 127 := fun _ hk => by have := smallE_nth h hk; omega
/-- What comparing two lists of exponents answers: from the last one, the greater one stands first. -/
def cmpX (xs ys : List Int) : Nat → Int
  | 0 => 0
  | m + 1 => if nth xs m = nth ys m then cmpX xs ys m else cmpI (nth ys m) (nth xs m)
theorem cmpX_eq {xs ys : List Int} {m : Nat} (h : nth xs m = nth ys m) : cmpX xs ys (m + 1) = cmpX xs ys m := by
  show (if nth xs m = nth ys m then cmpX xs ys m else cmpI (nth ys m) (nth xs m)) = _; rw [if_pos h]
theorem cmpX_ne {xs ys : List Int} {m : Nat} (h : ¬ nth xs m = nth ys m) : cmpX xs ys (m + 1) = cmpI (nth ys m) (nth xs m) := by
  show (if nth xs m = nth ys m then cmpX xs ys m else cmpI (nth ys m) (nth xs m)) = _; rw [if_neg h]
theorem cmpK_eq {a b : List Int} (hl : a.length = b.length) (h : ∀ j, j < a.length → nth a j = nth b j) : cmpK a b = 0 := by
  have e : a = b := by
    apply List.ext_getElem hl
    intro j h1 h2
    have := h j h1
    rwa [nth_get h1, nth_get h2] at this
  subst e
  unfold cmpK
  rw [if_neg (by omega), if_neg (by omega)]
theorem cmpK_ne {a b : List Int} {i : Nat} (ha : a.length = 7) (hb : b.length = 7) (sa : ∀ k, k < 7 → 0 ≤ nth a k ∧ nth a k ≤ 127) (sb : ∀ k, k < 7 → 0 ≤ nth b k ∧ nth b k ≤ 127) (hi : i < 7) (h : ∀ j, i < j → j < 7 → nth a j = nth b j) (hne : nth a i ≠ nth b i) :
    cmpK a b = cmpI (nth b i) (nth a i) := by
  unfold cmpK cmpI
  by_cases h1 : nth b i < nth a i
  · have := key7_lt b a i (by omega) (by rw [hb]; exact sb) (by rw [ha]; exact sa) (by omega) (fun j h1 h2 => (h j h1 (by omega)).symm) h1
    rw [if_pos this, if_pos h1]
  · have := key7_lt a b i (by omega) (by rw [ha]; exact sa) (by rw [hb]; exact sb) (by omega) (fun j h1 h2 => h j h1 (by omega)) (by omega)
    rw [if_neg (by omega), if_pos this, if_neg h1, if_pos (by omega)]
theorem cmpX_key {a b : List Int} (ha : a.length = 7) (hb : b.length = 7) (sa : ∀ k, k < 7 → 0 ≤ nth a k ∧ nth a k ≤ 127) (sb : ∀ k, k < 7 → 0 ≤ nth b k ∧ nth b k ≤ 127) :
    ∀ m, m ≤ 7 → (∀ j, m ≤ j → j < 7 → nth a j = nth b j) → cmpX a b m = cmpK a b
  | 0, _, h => (cmpK_eq (by omega) fun j hj => h j (by omega) (by omega)).symm
  | m + 1, hm, h => by
    by_cases e : nth a m = nth b m
    · rw [cmpX_eq e]
      exact cmpX_key ha hb sa sb m (by omega) fun j h1 h2 => by
        rcases Nat.lt_or_ge m j with h3 | h3
        · exact h j (by omega) h2
        · obtain rfl : j = m := by omega
          exact e
    · rw [cmpX_ne e]
      exact (cmpK_ne ha hb sa sb (by omega) (fun j h1 h2 => h j (by omega) h2) e).symm

theorem Try.undExp : Try.prog.underlying 116 = some (.array 7 3) := Try.underlying116
theorem Try.infoExp : (Try.prog.info? 116).map (·.size) = some 7 := by kernel_rfl
set_option maxHeartbeats 1600000 in
theorem compareExps_any (xs ys : List Int) (w : World) :
    Calls Try.prog 121 #[arr xs, arr ys] w fun r w' => r = .returned (.int .i64 (cmpX xs ys 7)) ∧ Grew w w' := by
  have hb0 : Grew w ((w.alloc (.cells (arrC xs) 116)).alloc (.cells (arrC ys) 116)) := ((Grew.refl w).alloc _).alloc _
  have hK1 : Blk ((w.alloc (.cells (arrC xs) 116)).alloc (.cells (arrC ys) 116)) w.heap.size 116 (arrC xs) := (Blk.new w _ _).alloc _
  have hK2 : Blk ((w.alloc (.cells (arrC xs) 116)).alloc (.cells (arrC ys) 116)) (w.heap.size + 1) 116 (arrC ys) := by
    have := (Blk.new (w.alloc (.cells (arrC xs) 116)) 116 (arrC ys))
    simpa using this
  obtain ⟨g, hg⟩ : ∃ g, g = w.heap.size := ⟨_, rfl⟩
  have HG := Lib.hid hg
  rw [← hg] at hK1 hK2
  have H0 := Lib.hid hb0
  have H1 := Lib.hid hK1
  have H2 := Lib.hid hK2
  clear hb0 hK1 hK2
  go_enter Try.func121, Try.ntmps121
  go_wp2
  obtain ⟨w0, hw0⟩ : ∃ w0, w0 = ((w.alloc (.cells (arrC xs) 116)).alloc (.cells (arrC ys) 116)) := ⟨_, rfl⟩
  rw [← hg]
  clear hg
  rw [← hw0] at H0 H1 H2
  rw [← hw0]
  have HW0 := Lib.hid hw0
  clear hw0
  go_loopw [5] (fun i wr => ∃ m : Nat, m ≤ 7 ∧ i = .int .i64 ((m : Int) - 1) ∧ cmpX xs ys 7 = cmpX xs ys m ∧ Drawn w0 wr)
    (fun i _ => (intOf i + 1).toNat)
  case atStart => exact ⟨7, by omega, by go_num, rfl, Drawn.refl _⟩
  case round =>
    obtain ⟨m, hm, rfl, hall, hD⟩ := hrel
    have HA := Lib.hid hall
    have K1 := H1.out.drawn hD
    have K2 := H2.out.drawn hD
    have HD := Lib.hid hD
    clear hall hD
    by_cases h0 : 0 < m
    · obtain ⟨k, rfl⟩ : ∃ k, m = k + 1 := ⟨m - 1, by omega⟩
      have hc1 : wr.cell? ⟨g, k, none⟩ = some (.int .i64 (nth xs k)) := (K1.cell _).trans (arrC_get _ k (by omega))
      have hc1' : wr.cell? ⟨g + 1, k, none⟩ = some (.int .i64 (nth ys k)) := (K2.cell _).trans (arrC_get _ k (by omega))
      have hi : ((k + 1 : Nat) : Int) - 1 = (k : Int) := by omega
      rw [hi]
      have hkI : (k : Int) < 7 := by omega
      clear K1 K2 hi
      by_cases heq : nth xs k = nth ys k
      · have HE := Lib.hid heq
        rw [← heq] at hc1'
        obtain ⟨p, hp⟩ : ∃ p, p = nth xs k := ⟨_, rfl⟩
        rw [← hp] at hc1 hc1'
        clear heq hp
        go_wp2_with fail
        go_quiet (fail)
        go_wp2
        go_roundw
        case rel => exact ⟨k, by omega, by go_num, by rw [HA.out, cmpX_eq HE.out], HD.out.drewN _⟩
        case measure => simp [intOf]
      · have HE := Lib.hid heq
        obtain ⟨p, hp⟩ : ∃ p, p = nth xs k := ⟨_, rfl⟩
        obtain ⟨q, hq⟩ : ∃ q, q = nth ys k := ⟨_, rfl⟩
        have HP := Lib.hid (And.intro hp hq)
        rw [← hp] at hc1 heq
        rw [← hq] at hc1' heq
        have hb : (p != q) = true := by simpa using heq
        clear heq hp hq
        go_wp2_with fail
        go_quiet (fail)
        go_wp2_with fail
        obtain ⟨w2, hw2⟩ : ∃ w2, w2 = wr.drewN nq := ⟨_, rfl⟩
        have hcb1 : w2.cell? ⟨g, k, none⟩ = some (.int .i64 p) := by rw [hw2]; exact hc1
        have hcb2 : w2.cell? ⟨g + 1, k, none⟩ = some (.int .i64 q) := by rw [hw2]; exact hc1'
        have HD2 : Hid (Drawn w0 w2) := Lib.hid (by rw [hw2]; exact HD.out.drewN _)
        rw [← hw2]
        clear hw2 hc1 hc1' hb
        go_quiet ((go_at_call 130; exact Calls.quiet_of (compare_q q p _)))
        go_wp2
        go_ret
        refine ⟨ret_int ?_, H0.out.trans (Grew.of_drawn (HD2.out.drewN _))⟩
        rw [HA.out, cmpX_ne HE.out, HP.out.1, HP.out.2]
    · have hm0 : m = 0 := by omega
      subst hm0
      go_wp2
      go_ret
      exact ⟨ret_int HA.out.symm, H0.out.trans (Grew.of_drawn HD.out)⟩

theorem arrC_map {l : List Int} (hl : l.length = 7) : arrC l = (l.map (Value.int .i64)).toArray := by
  match l, hl with
  | [a, b, c, d, e, f, g], _ => rfl
theorem quiet_loadcell1 {C : World → Prop} {a : Act} {o : Oper} {K : Act → Prop} (ty : TypeId) (x : Operand) (ho : o.op = .load ty x) (b off : Nat) (hx : a.eval x = .pointer (some ⟨b, off, none⟩)) (v : Value)
    (hb : ∀ w, C w → w.cell? ⟨b, off, none⟩ = some v) (hu : ty = 31) (hk : K (a.put o.dst v)) : o.quiet Try.prog a C K :=
  ⟨_, fun w hw => by
    subst hu
    have hc := hb w hw
    have hl : (loadVar 31 ⟨b, off, none⟩).run Try.prog w = .ok v w := by
      simp [loadVar, isAgg, underlying, Try.underlying31, hc, Result.andThen]
    unfold Oper.quietAt execOp
    simp only [ho, hx, Instr.loadAt, Instr.sureAddr, Sem.run_bind, Sem.run_pure, Result.andThen_ok, hl]
    exact ⟨rfl, rfl⟩, hk⟩
/-- A load at a class of worlds, the load's own run given. -/
theorem quiet_loadrun {C : World → Prop} {a : Act} {o : Oper} {K : Act → Prop} (ty : TypeId) (x : Operand) (ho : o.op = .load ty x) (b off : Nat) (hx : a.eval x = .pointer (some ⟨b, off, none⟩)) (v : Value)
    (hb : ∀ w, C w → (loadVar ty ⟨b, off, none⟩).run Try.prog w = .ok v w) (hk : K (a.put o.dst v)) : o.quiet Try.prog a C K :=
  ⟨_, fun w hw => by
    have hl := hb w hw
    unfold Oper.quietAt execOp
    simp only [ho, hx, Instr.loadAt, Instr.sureAddr, Sem.run_bind, Sem.run_pure, Result.andThen_ok, hl]
    exact ⟨rfl, rfl⟩, hk⟩
/-- A slice of seven numbers read as an array. -/
theorem SI.load7 {w : World} {b o : Nat} {xs : List Int} (h : SI w (some ⟨b, o, none⟩) 7 xs) : (loadVar 116 ⟨b, o, none⟩).run Try.prog w = .ok (arr xs) w := by
  have hl := h.1
  obtain ⟨b', o', e, hb, hc⟩ := h.2 (by omega)
  simp only [Option.some.injEq, Addr.mk.injEq, and_true] at e
  obtain ⟨rfl, rfl⟩ := e
  rw [show arr xs = .agg (xs.map (Value.int .i64)).toArray by show Value.agg (arrC xs) = _; rw [arrC_map hl]]
  refine run_loadVar_mid w b o 116 (xs.map (Value.int .i64)) _ (fun j v hj => ?_) Try.undExp rfl (by rw [Try.infoExp]; simp [hl])
  have hjl : j < xs.length := by
    rcases Nat.lt_or_ge j xs.length with h | h
    · exact h
    · rw [List.getElem?_eq_none (by simpa using h)] at hj; cases hj
  rw [List.getElem?_map, nth_get? hjl] at hj
  rw [hc j (by omega)]
  exact hj

theorem arrayAt7 (p : Addr) (c : Nat) (w : World) : (Instr.arrayAt 116 (.slice (some p) 7 c)).run Try.prog w = .ok (.pointer (some p)) w := by
  simp [Instr.arrayAt, underlying, Try.undExp, Result.andThen]
set_option maxRecDepth 100000 in
set_option maxHeartbeats 1600000 in
/-- Two terms of seven exponents each, whatever they are. -/
theorem compareTermsX_any (A A' : Option Addr) (c c' : Nat) (xs ys : List Int) (x y : Int) (w : World) (hs : SI w A 7 xs) (hs' : SI w A' 7 ys) :
    Calls Try.prog 68 #[.agg #[.slice A 7 c, .int .i64 x], .agg #[.slice A' 7 c', .int .i64 y]] w fun r w' => r = .returned (.int .i64 (cmpX xs ys 7)) ∧ Grew w w' := by
  obtain ⟨b, o, rfl, _⟩ := hs.at_ (by omega)
  obtain ⟨b', o', rfl, _⟩ := hs'.at_ (by omega)
  have hb0 : Grew w ((w.alloc (.cells #[.slice (some ⟨b, o, none⟩) 7 c, .int .i64 x] 68)).alloc (.cells #[.slice (some ⟨b', o', none⟩) 7 c', .int .i64 y] 68)) := ((Grew.refl w).alloc _).alloc _
  have hK1 : Blk ((w.alloc (.cells #[.slice (some ⟨b, o, none⟩) 7 c, .int .i64 x] 68)).alloc (.cells #[.slice (some ⟨b', o', none⟩) 7 c', .int .i64 y] 68)) w.heap.size 68 #[.slice (some ⟨b, o, none⟩) 7 c, .int .i64 x] := (Blk.new w _ _).alloc _
  have hK2 : Blk ((w.alloc (.cells #[.slice (some ⟨b, o, none⟩) 7 c, .int .i64 x] 68)).alloc (.cells #[.slice (some ⟨b', o', none⟩) 7 c', .int .i64 y] 68)) (w.heap.size + 1) 68 #[.slice (some ⟨b', o', none⟩) 7 c', .int .i64 y] := by
    have := (Blk.new (w.alloc (.cells #[.slice (some ⟨b, o, none⟩) 7 c, .int .i64 x] 68)) 68 #[.slice (some ⟨b', o', none⟩) 7 c', .int .i64 y])
    simpa using this
  obtain ⟨g, hg⟩ : ∃ g, g = w.heap.size := ⟨_, rfl⟩
  rw [← hg] at hK1 hK2
  have HG := Lib.hid hg
  go_enter Try.func68, Try.ntmps68
  go_wp2_with fail
  rw [← hg]
  generalize ((w.alloc (.cells #[.slice (some ⟨b, o, none⟩) 7 c, .int .i64 x] 68)).alloc (.cells #[.slice (some ⟨b', o', none⟩) 7 c', .int .i64 y] 68)) = w0 at *
  have hs0 := hs.below hb0.below (Nat.le_refl _)
  have hs0' := hs'.below hb0.below (Nat.le_refl _)
  have hltb := (hs0.at_ (by omega))
  have hltb' := (hs0'.at_ (by omega))
  have L1 : ∀ w', Grew w0 w' → (loadVar 116 ⟨b, o, none⟩).run Try.prog w' = .ok (arr xs) w' := fun w' hw' => (hs0.below hw'.below (Nat.le_refl _)).load7
  have L2 : ∀ w', Grew w0 w' → (loadVar 116 ⟨b', o', none⟩).run Try.prog w' = .ok (arr ys) w' := fun w' hw' => (hs0'.below hw'.below (Nat.le_refl _)).load7
  have hc1 : ∀ w', Grew w0 w' → w'.cell? ⟨g, 0, none⟩ = some (.slice (some ⟨b, o, none⟩) 7 c) := fun w' hw' => (Below.cell hw'.below (p := ⟨g, 0, none⟩) hK1.lt).trans (hK1.cell 0)
  have hc2 : ∀ w', Grew w0 w' → w'.cell? ⟨g + 1, 0, none⟩ = some (.slice (some ⟨b', o', none⟩) 7 c') := fun w' hw' => (Below.cell hw'.below (p := ⟨g + 1, 0, none⟩) hK2.lt).trans (hK2.cell 0)
  have CA : ∀ w', Grew w0 w' → Calls Try.prog 121 #[arr xs, arr ys] w' (fun r w'' => r = .returned (.int .i64 (cmpX xs ys 7)) ∧ Grew w0 w'') := fun w' hw' =>
    (compareExps_any xs ys w').mono fun r w'' ⟨hr, hb⟩ => ⟨hr, hw'.trans hb⟩
  obtain ⟨q, hq⟩ : ∃ q, q = cmpX xs ys 7 := ⟨_, rfl⟩
  rw [← hq] at CA
  have HQ := Lib.hid hq
  have HB := Lib.hid hb0
  have HL1 := Lib.hid L1
  have HL2 := Lib.hid L2
  have HC1 := Lib.hid hc1
  have HC2 := Lib.hid hc2
  have HCA := Lib.hid CA
  clear hg hK1 hK2 hs hs' hb0 hs0 hs0' hltb hltb' L1 L2 hc1 hc2 CA hq
  refine tq_class (Grew w0) (by kernel_rfl) (by kernel_rfl) (Grew.refl _).drew ?_
  go_big_quiet_want
  go_big_quiet_op
  first | go_big_quiet_on | (refine ⟨_, fun _ _ => rfl, ?_⟩; go_big_quiet_on)
  go_big_quiet_want
  refine quiet_loadcell1 31 (.tmp 5) rfl g 0 rfl _ HC1.out rfl ?_
  go_big_quiet_on
  go_simp
  go_big_quiet_want
  go_big_quiet_op
  refine ⟨.pointer (some ⟨b, o, none⟩), fun w' _ => by rw [arrayAt7]; exact ⟨rfl, rfl⟩, ?_⟩
  go_big_quiet_on
  go_big_quiet_want
  refine quiet_loadrun 116 (.tmp 7) rfl b o rfl _ HL1.out ?_
  go_big_quiet_on
  go_simp
  go_big_quiet_want
  go_big_quiet_op
  first | go_big_quiet_on | (refine ⟨_, fun _ _ => rfl, ?_⟩; go_big_quiet_on)
  go_big_quiet_want
  refine quiet_loadcell1 31 (.tmp 9) rfl (g + 1) 0 rfl _ HC2.out rfl ?_
  go_big_quiet_on
  go_simp
  go_big_quiet_want
  go_big_quiet_op
  refine ⟨.pointer (some ⟨b', o', none⟩), fun w' _ => by rw [arrayAt7]; exact ⟨rfl, rfl⟩, ?_⟩
  go_big_quiet_on
  go_big_quiet_want
  refine quiet_loadrun 116 (.tmp 11) rfl b' o' rfl _ HL2.out ?_
  go_big_quiet_on
  go_simp
  go_big_quiet_want
  go_big_quiet_op
  refine ⟨.int .i64 q, fun w' hw' => HCA.out w' hw', ?_⟩
  go_big_quiet_on
  go_big_quiet_want
  go_big_quiet_op
  first | go_big_quiet_on | (refine ⟨_, fun _ _ => rfl, ?_⟩; go_big_quiet_on)
  refine wpQuiet_nil ?_
  intro w6 hw6
  have HB6 := Lib.hid (HB.out.trans hw6)
  clear hw6 HCA HL1 HL2 HC1 HC2
  go_wp2
  go_ret
  exact ⟨ret_int HQ.out, HB6.out⟩
theorem compareTerms_any (A A' : Option Addr) (c c' : Nat) (xs ys : List Int) (x y : Int) (w : World) (hs : SI w A 7 xs) (hs' : SI w A' 7 ys) (sx : smallE xs = true) (sy : smallE ys = true) :
    Calls Try.prog 68 #[.agg #[.slice A 7 c, .int .i64 x], .agg #[.slice A' 7 c', .int .i64 y]] w fun r w' => r = .returned (.int .i64 (cmpK xs ys)) ∧ Below w.heap.size w w' := by
  have e := cmpX_key (a := xs) (b := ys) hs.1 hs'.1 (fun k hk => smallE_P sx k (by rw [hs.1]; exact hk)) (fun k hk => smallE_P sy k (by rw [hs'.1]; exact hk)) 7 (Nat.le_refl _) (fun j h1 h2 => absurd h1 (by omega))
  rw [← e]
  exact (compareTermsX_any A A' c c' xs ys x y w hs hs').mono fun _ _ ⟨hr, hb⟩ => ⟨hr, hb.below⟩
end Go.Proofs.Ytkfpacjncpifgaa
