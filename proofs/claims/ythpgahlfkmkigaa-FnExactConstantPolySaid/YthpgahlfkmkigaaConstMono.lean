/-
  Constants and monomials, on both sides. Conditions: lengths below 2^40.
-/
import Derived.Test.YthpgahlfkmkigaaPolyOkI
import Derived.Test.YthpgahlfkmkigaaTermMark
import Derived.Laws.CopyOwn
namespace Go.Proofs.Ythpgahlfkmkigaa
open Go.RowKit

theorem OwnT.single {w : World} {lo hi n c : Nat} {A : Option Addr} {xs : List Int} (h : Own w lo hi A n c xs) (hi' : hi ≤ w.heap.size) (hlo : lo ≤ w.heap.size) (x : Int) :
    OwnT (w.alloc (.cells #[.slice A n c, .int .i64 x] 51)) lo (w.heap.size + 1) (some ⟨w.heap.size, 0, none⟩) 1 1 [(xs, x)] := by
  refine ⟨fun _ => (A, n, c), rfl, ?_, fun k hk => by simp [Value.ownBlock] at hk; omega, fun j hj => ?_, fun j b hj hb => ?_, fun i j b hij hj _ => absurd hj (by omega)⟩
  · exact row_eq (World.ownsRow_lit w #[.slice A n c, .int .i64 x] 1 hlo (by unfold maxLen; omega) rfl) rfl
  · obtain rfl : j = 0 := by omega
    exact (h.below ((Below.refl w.heap.size w).alloc (Nat.le_refl _) _) hi').wide (Nat.le_refl _) (by omega)
  · have := h.lt b hb
    simp [Value.ownBlock]; omega
theorem FreshT.one {w w' : World} {A : Option Addr} {n c : Nat} {xs : List Int} (hb : Below w.heap.size w w') (h : Own w' w.heap.size w'.heap.size A n c xs) (x : Int) :
    FreshT w (w'.alloc (.cells #[.slice A n c, .int .i64 x] 51)) (.returned (.slice (some ⟨w'.heap.size, 0, none⟩) 1 1)) [(xs, x)] :=
  ⟨_, _, _, rfl, by have := OwnT.single h (Nat.le_refl _) hb.size x; simpa using this, hb.alloc hb.size _⟩
theorem FreshT.nil_ret {w w' : World} (h : Below w.heap.size w w') : FreshT w w' (.returned (.slice none 0 0)) [] := ⟨none, 0, 0, rfl, OwnT.nil _ _ _, h⟩

/-- The polynomial k. -/
def constPoly (k : Int) : List Tm := if k ≠ 0 ∧ -1000000 ≤ k ∧ k ≤ 1000000 then [(List.replicate 7 0, k)] else []
theorem constPoly_no {k : Int} (h : ¬ (k ≠ 0 ∧ -1000000 ≤ k ∧ k ≤ 1000000)) : constPoly k = [] := by unfold constPoly; rw [if_neg h]
theorem constPoly_yes {k : Int} (h : k ≠ 0 ∧ -1000000 ≤ k ∧ k ≤ 1000000) : constPoly k = [(List.replicate 7 0, k)] := by unfold constPoly; rw [if_pos h]
/-- What is short: at most one term of seven exponents. -/
def shortT (ts : List Tm) : Prop := ts = [] ∨ ∃ e x, ts = [(e, x)] ∧ e.length = 7
theorem shortT.le {ts : List Tm} (h : shortT ts) : ts.length ≤ 1099511627776 := by
  rcases h with rfl | ⟨e, x, rfl, _⟩ <;> simp
theorem shortT.lens {ts : List Tm} (h : shortT ts) (k : Nat) : (tm ts k).1.length ≤ 1099511627776 := by
  rcases h with rfl | ⟨e, x, rfl, h7⟩
  · simp [tm]
  · match k with
    | 0 => show e.length ≤ _; omega
    | k + 1 => simp [tm, List.getD]
theorem shortT.ends {ts : List Tm} (h : shortT ts) (k : Nat) : 0 ≤ endT (ts.take k) 1 ∧ endT (ts.take k) 1 ≤ 1099511627776 := by
  rcases h with rfl | ⟨e, x, rfl, h7⟩
  · simp [endT]
  · match k with
    | 0 => simp [endT]
    | k + 1 => simp [endT, h7]
theorem constPoly_short (k : Int) : shortT (constPoly k) := by
  by_cases h : k ≠ 0 ∧ -1000000 ≤ k ∧ k ≤ 1000000
  · exact .inr ⟨_, _, constPoly_yes h, by simp⟩
  · exact .inl (constPoly_no h)

set_option maxHeartbeats 400000 in
theorem specConstant_any (k : Int) (w : World) : Calls Try.prog 20 #[.int .i64 k] w fun e w' => FreshT w w' e (constPoly k) := by
  by_cases h0 : k = 0
  · rw [constPoly_no (fun h => h.1 h0)]
    subst h0
    go_enter Try.func20, Try.ntmps20
    go_wp2
    go_ret
    exact FreshT.nil_ret (Below.refl _ _)
  · by_cases hr : -1000000 ≤ k ∧ k ≤ 1000000
    · rw [constPoly_yes ⟨h0, hr⟩]
      obtain ⟨hr0, hr1⟩ := hr
      have hk0 : (k == 0) = false := by simpa using h0
      go_enter Try.func20, Try.ntmps20
      go_wp2_with (first | (go_at_call 51; refine (l1In_yes' hr0 hr1 _).mono ?_; rintro e w1 ⟨rfl, rfl⟩) | (at_make; refine wpList_make_zero rfl (.const (.int .i64 7)) (.const (.int .i64 7)) rfl 7 rfl rfl (by omega) ?_; intro w2 ho hb))
      go_ret
      exact FreshT.one hb ho k
    · rw [constPoly_no (fun h => hr h.2)]
      have hk0 : (k == 0) = false := by simpa using h0
      go_enter Try.func20, Try.ntmps20
      go_wp2_with (go_at_call 51; refine (l1In_no' (by omega) _).mono ?_; rintro e w1 ⟨rfl, rfl⟩)
      go_ret
      exact FreshT.nil_ret (Below.refl _ _)
set_option maxHeartbeats 400000 in
theorem implConstant_any (k : Int) (w : World) : Calls Try.prog 21 #[.int .i64 k] w fun e w' => FreshT w w' e (constPoly k) := by
  by_cases hk : k ≠ 0 ∧ -1000000 ≤ k ∧ k ≤ 1000000
  · rw [constPoly_yes hk]
    go_enter Try.func21, Try.ntmps21
    go_wp2_with (first | (go_at_call 57; refine (isCoef_yes hk _).mono ?_; rintro e w1 ⟨rfl, rfl⟩) | (at_make; refine wpList_make_zero rfl (.const (.int .i64 7)) (.const (.int .i64 7)) rfl 7 rfl rfl (by omega) ?_; intro w2 ho hb))
    go_ret
    exact FreshT.one hb ho k
  · rw [constPoly_no hk]
    go_enter Try.func21, Try.ntmps21
    go_wp2_with (go_at_call 57; refine (isCoef_no hk _).mono ?_; rintro e w1 ⟨rfl, rfl⟩)
    go_ret
    exact FreshT.nil_ret (Below.refl _ _)

/-- Exponents with zeros behind them, seven in all: the first k of e. -/
def fillE (e : List Int) (k : Nat) : List Int := e.take k ++ List.replicate (7 - k) 0
theorem fillE_len {e : List Int} {k : Nat} (h : k ≤ e.length) (h7 : k ≤ 7) : (fillE e k).length = 7 := by simp [fillE]; omega
theorem fillE_succ {e : List Int} {k : Nat} (h : k < e.length) (h7 : k < 7) : (fillE e k).set k (nth e k) = fillE e (k + 1) := by
  unfold fillE
  have hl : (e.take k).length = k := by simp; omega
  rw [List.set_append_right _ _ (by omega), hl, Nat.sub_self, show 7 - k = (7 - (k + 1)) + 1 by omega, List.replicate_succ, List.set_cons_zero, take_nth h, List.append_assoc]
  rfl
/-- The polynomial of one term. -/
def monoPoly (e : List Int) : List Tm := if e.length ≤ 7 ∧ smallE e = true then [(fillE e e.length, 1)] else []
theorem monoPoly_no {e : List Int} (h : ¬ (e.length ≤ 7 ∧ smallE e = true)) : monoPoly e = [] := by unfold monoPoly; rw [if_neg h]
theorem monoPoly_yes {e : List Int} (h : e.length ≤ 7 ∧ smallE e = true) : monoPoly e = [(fillE e e.length, 1)] := by unfold monoPoly; rw [if_pos h]
theorem monoPoly_short (e : List Int) : shortT (monoPoly e) := by
  by_cases h : e.length ≤ 7 ∧ smallE e = true
  · exact .inr ⟨_, _, monoPoly_yes h, fillE_len (Nat.le_refl _) h.1⟩
  · exact .inl (monoPoly_no h)
theorem smallE_fill {e : List Int} (h7 : e.length ≤ 7) : smallE (fillE e e.length) = smallE e := by
  unfold fillE smallE
  rw [List.take_of_length_le (Nat.le_refl _), List.all_append]
  have : (List.replicate (7 - e.length) (0 : Int)).all (fun x => decide (0 ≤ x ∧ x ≤ 24)) = true := by
    rw [List.all_eq_true]; intro x hx; rw [List.eq_of_mem_replicate hx]; decide
  rw [this, Bool.and_true]

set_option maxHeartbeats 800000 in
theorem specMonomial_any (A : Option Addr) (n c : Nat) (e : List Int) (w : World) (hs : SI w A n e) (hn : n ≤ 1099511627776) :
    Calls Try.prog 24 #[.slice A n c] w fun r w' => FreshT w w' r (monoPoly e) := by
  have hl := hs.1
  by_cases h7 : n ≤ 7
  · have HL := Lib.hid hl
    obtain ⟨B, hB⟩ : ∃ B, B = w.heap.size := ⟨_, rfl⟩
    have HB0 : Hid (B = w.heap.size) := hB
    have HM : Hid (monoPoly e = monoPoly e) := Lib.hid rfl
    clear hl
    go_enter Try.func24, Try.ntmps24
    go_wp2_with (at_make; refine wpList_make_zero rfl (.const (.int .i64 7)) (.const (.int .i64 7)) rfl 7 rfl rfl (by omega) ?_; intro w2 ho hb)
    rw [← hB] at ho hb ⊢
    go_loopw [4] (fun i wr => ∃ k : Nat, k ≤ n ∧ i = .int .i64 k ∧ (∀ j, j < k → 0 ≤ nth e j ∧ nth e j ≤ 24) ∧ Own wr B wr.heap.size (some ⟨B, 0, none⟩) 7 7 (fillE e k) ∧ Below B w wr)
      (fun i _ => n - (intOf i).toNat)
    case atStart => exact ⟨0, Nat.zero_le _, rfl, fun j hj => absurd hj (by omega), ho, hb⟩
    case round =>
      obtain ⟨k, hk, rfl, hall, hown, hbel⟩ := hrel
      have HA := Lib.hid hall
      have HO := Lib.hid hown
      have HB := Lib.hid hbel
      have hse := hs.below hbel (by omega)
      clear ho hb hall
      by_cases hlt : k < n
      · have hlI : (k : Int) < (n : Int) := by omega
        obtain ⟨b, o, rfl, hb2, hc⟩ := hse.at_ (by omega)
        have hc1 := hc k hlt
        have hf := hown.frozenAt k
        have hc2 := hown.cellAt (k := k) (by omega)
        obtain ⟨y, hy⟩ : ∃ y, y = nth (fillE e k) k := ⟨_, rfl⟩
        rw [← hy] at hc2
        have hst := hown.set_ (k := k) (nth e k)
        rw [fillE_succ (by rw [HL.out]; exact hlt) (by omega)] at hst
        obtain ⟨x, hx⟩ : ∃ x, x = nth e k := ⟨_, rfl⟩
        rw [← hx] at hc1 hst
        have HX := Lib.hid hx
        have HS := Lib.hid hst
        clear hc hy hst hx hown hbel hse hs hB w2
        by_cases hr : 0 ≤ x ∧ x ≤ 24
        · obtain ⟨hr0, hr1⟩ := hr
          go_wp2_with (go_at_call 51; refine (l1In_yes' hr0 hr1 _).mono ?_; rintro e w1 ⟨rfl, rfl⟩)
          go_roundw
          case rel => exact ⟨k + 1, by omega, by go_num, fun j hj => by
            rcases Nat.lt_or_ge j k with h | h
            · exact HA.out j h
            · obtain rfl : j = k := by omega
              rw [← HX.out]; exact ⟨hr0, hr1⟩, by simpa using HS.out.1, HB.out.setCell (Nat.le_refl _) _⟩
          case measure => simp [intOf]; omega
        · go_wp2_with (go_at_call 51; refine (l1In_no' (by omega) _).mono ?_; rintro e w1 ⟨rfl, rfl⟩)
          go_ret
          rw [monoPoly_no (fun h => hr (by rw [HX.out]; exact smallE_nth h.2 (by rw [HL.out]; exact hlt)))]
          exact FreshT.nil_ret (by rw [← HB0.out]; exact HB.out)
      · have hkn : k = n := by omega
        subst hkn
        go_wp2
        go_ret
        rw [monoPoly_yes ⟨by rw [HL.out]; exact h7, smallE_all (by rw [HL.out]; exact HA.out)⟩]
        have e2 := HB0.out
        subst e2
        rw [HL.out]
        exact FreshT.one HB.out HO.out 1
  · rw [monoPoly_no (fun h => h7 (by omega))]
    go_enter Try.func24, Try.ntmps24
    go_wp2
    go_ret
    exact FreshT.nil_ret (Below.refl _ _)

theorem Try.infoIntS : (Try.prog.info? 3).map (·.size) = some 1 := by kernel_rfl
/-- 'copy(d, s)' into a slice of the call's own that is at least as long. -/
theorem wpList_copy_ints {ops : Array Oper} {rest : List Oper} {o : Oper} {a : Act} {w : World} {Q : Exit → Act → World → Prop} (hgd : o.guard = none) (d s : Operand)
    (ho : o.op = .call { callee := .builtin .copy, args := #[d, s], argTypes := #[32, 32] }) (g n' : Nat) (A : Option Addr) (n c : Nat) (hd : a.eval d = .slice (some ⟨g, 0, none⟩) n' n') (hs : a.eval s = .slice A n c)
    (lo hi : Nat) (ys e : List Int) (hown : Own w lo hi (some ⟨g, 0, none⟩) n' n' ys) (hsi : SI w A n e) (hle : n ≤ n')
    (hK : ∀ w', Own w' lo hi (some ⟨g, 0, none⟩) n' n' (e ++ ys.drop n) → w.grownBy w' (some g) → wpList Try.prog ops Q rest (a.put o.dst (goInt n)) w') : wpList Try.prog ops Q (o :: rest) a w := by
  have hl := hsi.1
  by_cases h0 : n = 0
  · subst h0
    obtain rfl : e = [] := List.eq_nil_of_length_eq_zero hl
    exact Go.wpList_copy_nothing hgd d s 32 32 ho 3 Try.underlying32 Try.infoIntS (some ⟨g, 0, none⟩) A n' n' 0 c hd hs (by simp) (hK w (by simpa using hown) (World.grownBy.refl _ _))
  · obtain ⟨b, off, rfl, hb, hc⟩ := hsi.2 (by omega)
    rcases hown.1.2 with ⟨hx, _⟩ | ⟨g', cap, cur, hv, hlo, hg, hnc, hcm, hcs, htake⟩
    · cases hx
    · have hv' := hv
      simp only [Value.slice.injEq, Option.some.injEq, Addr.mk.injEq, and_true, true_and] at hv'
      obtain ⟨rfl, rfl⟩ := hv'
      have hyl := hown.len
      have hcur : cur.toList = ys.map (Value.int .i64) := by rw [← htake, List.take_of_length_le (by simp; omega)]
      have hE : (cur.toList.take 0 ++ (e.map (Value.int .i64) ++ cur.toList.drop (0 + (e.map (Value.int .i64)).length))).toArray = ((e ++ ys.drop n).map (Value.int .i64)).toArray := by
        rw [hcur]; simp [hl, List.map_drop]
      refine Go.wpList_copy_own hgd d s 32 32 ho 3 Try.underlying32 Try.infoIntS g 0 n' n' ⟨b, off, none⟩ n c hd hs cur 3 hg (e.map (Value.int .i64)) (by simp [hl]; exact (Nat.min_eq_left hle).symm) ?_ (by simp [hl]; omega) (ints_oneCell _ _) ?_
      · intro j v hj
        have hjl : j < e.length := by
          rcases Nat.lt_or_ge j e.length with h | h
          · exact h
          · rw [List.getElem?_eq_none (by simpa using h)] at hj; cases hj
        rw [List.getElem?_map, nth_get? hjl] at hj
        rw [add_pt, hc j (by omega)]
        exact hj
      · rw [hE]
        have hk := hK (w.setRow g ((e ++ ys.drop n).map (Value.int .i64)).toArray) ⟨⟨by simp; omega, .inr ⟨g, n', _, rfl, hlo, setRow_heap w g cur _ _ (0, 0) hg, Nat.le_refl _, hcm, by simp; omega, List.take_of_length_le (by simp; omega)⟩⟩, hown.2⟩ (grownBy_setRow w g _)
        simpa [hl] using hk

set_option maxHeartbeats 800000 in
theorem implMonomial_any (A : Option Addr) (n c : Nat) (e : List Int) (w : World) (hs : SI w A n e) (hn : n ≤ 1099511627776) :
    Calls Try.prog 26 #[.slice A n c] w fun r w' => FreshT w w' r (monoPoly e) := by
  have hl := hs.1
  by_cases h7 : n ≤ 7
  · have HL := Lib.hid hl
    obtain ⟨B, hB⟩ : ∃ B, B = w.heap.size := ⟨_, rfl⟩
    have HB0 : Hid (B = w.heap.size) := hB
    clear hl
    go_enter Try.func26, Try.ntmps26
    have HS := Lib.hid hs
    clear hs
    go_wp2_with (first
      | (at_make; refine wpList_make_zero rfl (.const (.int .i64 7)) (.const (.int .i64 7)) rfl 7 rfl rfl (by omega) ?_; intro w2 ho hb; have HO := Lib.hid ho; have HB := Lib.hid hb; clear ho hb)
      | (with_reducible refine wpList_copy_ints rfl (.tmp 10) (.tmp 11) rfl w.heap.size 7 A n c rfl rfl w.heap.size w2.heap.size (List.replicate 7 0) e (HO.out.below ((Below.refl w2.heap.size w2).alloc (Nat.le_refl _) _) (Nat.le_refl _)) (HS.out.below (HB.out.alloc HB.out.size _) (Nat.le_refl _)) h7 ?_
         intro w4 ho4 hg4
         have hlt : w.heap.size < w2.heap.size := (HO.out.lt w.heap.size rfl).2
         have hK4 := (Blk.new w2 51 #[.slice (some ⟨w.heap.size, 0, none⟩) 7 7, .int .i64 1]).grown hg4 (by intro e; injection e with e; omega)
         have hd0 : w4.cell? ⟨w2.heap.size, 0, none⟩ = some (.slice (some ⟨w.heap.size, 0, none⟩) 7 7) := hK4.cell 0
         have hd1 : w4.cell? ⟨w2.heap.size, 1, none⟩ = some (.int .i64 1) := hK4.cell 1
         have HK4 := Lib.hid hK4
         have HO4 := Lib.hid ho4
         have HB4 := Lib.hid (((HB.out.alloc HB.out.size (.cells #[.slice (some ⟨w.heap.size, 0, none⟩) 7 7, .int .i64 1] 51))).grown hg4 (by have := HB.out.size; simp; omega) (by rintro q ⟨⟩; exact Nat.le_refl _))
         clear ho4 hg4 hlt hK4)
      | fail)
    have eX : e ++ (List.replicate 7 (0 : Int)).drop n = fillE e e.length := by rw [fillE, List.take_of_length_le (Nat.le_refl _), List.drop_replicate, HL.out]
    rw [eX] at HO4
    have hlt : w.heap.size < w2.heap.size := (HO.out.lt w.heap.size rfl).2
    have hV := isValid_any (some ⟨w.heap.size, 0, none⟩) 7 7 (fillE e e.length) 1 w4 HO4.out.si (by omega)
    have hlen : e.length ≤ 7 := by rw [HL.out]; exact h7
    have hg : goodT (fillE e e.length, 1) = smallE e := by
      rw [← smallE_fill hlen]
      unfold goodT
      have h1 : (fillE e e.length).length = 7 := fillE_len (Nat.le_refl _) hlen
      simp [h1]
    rw [hg] at hV
    have HV := Lib.hid hV
    have HH := Lib.hid hlen
    have HLT := Lib.hid hlt
    clear hV hg hlen eX hlt hd0 hd1 hB
    cases hsm : smallE e with
    | false =>
      rw [hsm] at HV
      have HN := Lib.hid (monoPoly_no (e := e) (fun h => by rw [hsm] at h; cases h.2))
      clear hsm
      refine HV.out.mono ?_
      rintro r w5 ⟨rfl, hb5⟩
      have HB5 := Lib.hid (HB4.out.trans (hb5.mono HB4.out.size))
      clear hb5
      go_wp2
      go_ret
      rw [HN.out]
      exact FreshT.nil_ret HB5.out
    | true =>
      rw [hsm] at HV
      have HN := Lib.hid (monoPoly_yes ⟨HH.out, hsm⟩)
      clear hsm
      refine HV.out.mono ?_
      rintro r w5 ⟨rfl, hb5⟩
      have HB5 := Lib.hid (HB4.out.trans (hb5.mono HB4.out.size))
      have hK5 := HK4.out.below hb5 HK4.out.lt
      have hd0 : w5.cell? ⟨w2.heap.size, 0, none⟩ = some (.slice (some ⟨w.heap.size, 0, none⟩) 7 7) := hK5.cell 0
      have hd1 : w5.cell? ⟨w2.heap.size, 1, none⟩ = some (.int .i64 1) := hK5.cell 1
      have HO5 := Lib.hid ((HO4.out.below hb5 (by have := HK4.out.lt; omega)).wide (Nat.le_refl _) (Nat.le_trans (Nat.le_of_lt HK4.out.lt) hb5.size))
      clear hb5 hK5
      go_wp2
      go_ret
      rw [HN.out]
      exact FreshT.one HB5.out HO5.out 1
  · rw [monoPoly_no (fun h => h7 (by omega))]
    go_enter Try.func26, Try.ntmps26
    go_wp2
    go_ret
    exact FreshT.nil_ret (Below.refl _ _)
end Go.Proofs.Ythpgahlfkmkigaa
