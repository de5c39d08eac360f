/-
  Texts QpM to FqpI, merged. Conditions: as each says.
-/
import Derived.RegionTactic
import Derived.BigRegion
import Derived.Deep.MidRow
import Derived.Deep.Cut
import Derived.Deep.SlicePairs
import Derived.Laws.Concat
import Derived.Test.YtdiiaallklkomaaDoorPkA2
/-
  Lists of quantum parts (three cells each: a power, a shape, a number) as memory holds them. No conditions.
-/


namespace Go.Proofs.YtdiiaallklkomaaDoor
open Go.RowKit

/-- A quantum part: its power of q, its shape, its number. -/
abbrev Qm := Int × List Int × Int
def qm (ts : List Qm) (k : Nat) : Qm := ts.getD k (0, [], 0)
theorem qm_get {ts : List Qm} {k : Nat} (h : k < ts.length) : qm ts k = ts[k] := by simp [qm, List.getD, h]
theorem qm_ext {ts us : List Qm} (hl : ts.length = us.length) (h : ∀ j, j < ts.length → qm ts j = qm us j) : ts = us := by
  apply List.ext_getElem hl
  intro j h1 h2
  have := h j h1
  rwa [qm_get h1, qm_get h2] at this
/-- The slice (A, n) reads as the quantum parts ts. -/
def QS (w : World) (A : Option Addr) (n : Nat) (ts : List Qm) : Prop :=
  ts.length = n ∧ (0 < n → ∃ b o, A = some ⟨b, o, none⟩ ∧ b < w.heap.size ∧ ∀ k, k < n → ∃ A' n' c', w.cell? ⟨b, o + k * 3, none⟩ = some (.int .i64 (qm ts k).1) ∧
    w.cell? ⟨b, o + k * 3 + 1, none⟩ = some (.slice A' n' c') ∧ w.cell? ⟨b, o + k * 3 + 2, none⟩ = some (.int .i64 (qm ts k).2.2) ∧ SI w A' n' (qm ts k).2.1)
section
variable {w w' : World} {A : Option Addr} {n : Nat} {ts : List Qm}
theorem QS.nil (w : World) (A : Option Addr) : QS w A 0 [] := ⟨rfl, fun h => absurd h (by omega)⟩
theorem QS.at_ (h : QS w A n ts) {k : Nat} (hk : k < n) : ∃ b o A' n' c', A = some ⟨b, o, none⟩ ∧ b < w.heap.size ∧ w.cell? ⟨b, o + k * 3, none⟩ = some (.int .i64 (qm ts k).1) ∧
    w.cell? ⟨b, o + k * 3 + 1, none⟩ = some (.slice A' n' c') ∧ w.cell? ⟨b, o + k * 3 + 2, none⟩ = some (.int .i64 (qm ts k).2.2) ∧ SI w A' n' (qm ts k).2.1 := by
  obtain ⟨b, o, e, hb, hc⟩ := h.2 (by omega)
  obtain ⟨A', n', c', h1⟩ := hc k hk
  exact ⟨b, o, A', n', c', e, hb, h1⟩
theorem QS.below {B : Nat} (h : QS w A n ts) (hb : Below B w w') (hB : w.heap.size ≤ B) : QS w' A n ts :=
  ⟨h.1, fun hn => by
    obtain ⟨b, o, e, hl, hc⟩ := h.2 hn
    have hs := hb.size
    refine ⟨b, o, e, by omega, fun k hk => ?_⟩
    obtain ⟨A', n', c', h1, h2, h3, h4⟩ := hc k hk
    exact ⟨A', n', c', (hb.cell (p := ⟨b, o + k * 3, none⟩) (by show b < B; omega)).trans h1, (hb.cell (p := ⟨b, o + k * 3 + 1, none⟩) (by show b < B; omega)).trans h2,
      (hb.cell (p := ⟨b, o + k * 3 + 2, none⟩) (by show b < B; omega)).trans h3, h4.below hb hB⟩⟩
end
theorem QS.range {w : World} {b o k : Nat} {x y : Int} {v : Value} (h0 : w.cell? ⟨b, o + k * 3, none⟩ = some (.int .i64 x)) (h1 : w.cell? ⟨b, o + k * 3 + 1, none⟩ = some v)
    (h2 : w.cell? ⟨b, o + k * 3 + 2, none⟩ = some (.int .i64 y)) : w.rangeAt b (o + k * 3) [.int .i64 x, v, .int .i64 y] := by
  intro j u hj
  match j, hj with
  | 0, hj => simp at hj; subst hj; simpa using h0
  | 1, hj => simp at hj; subst hj; simpa using h1
  | 2, hj => simp at hj; subst hj; simpa using h2
def eqQs (ts us : List Qm) : Bool := decide (ts = us)
theorem eqQs_self (ts : List Qm) : eqQs ts ts = true := by simp [eqQs]
theorem eqQs_len {ts us : List Qm} (h : ts.length ≠ us.length) : eqQs ts us = false := by
  simp only [eqQs, decide_eq_false_iff_not]; intro e; exact h (by rw [e])
theorem eqQs_all {ts us : List Qm} (hl : ts.length = us.length) (h : ∀ j, j < ts.length → qm ts j = qm us j) : eqQs ts us = true := by
  simp only [eqQs, decide_eq_true_eq]
  exact qm_ext hl h
theorem eqQs_ne {ts us : List Qm} {k : Nat} (h : qm ts k ≠ qm us k) : eqQs ts us = false := by
  simp only [eqQs, decide_eq_false_iff_not]; intro e; exact h (by rw [e])
theorem Tryd.infoQm : (Tryd.prog.info? 89).map (·.size) = some 3 := by kernel_rfl
theorem Tryd.infoQmL : (Tryd.prog.info? 88).map (·.size) = some 3 := by kernel_rfl
end Go.Proofs.YtdiiaallklkomaaDoor

/-
  Quantum parts and lists of them: their size, and whether two are the same. Conditions: lengths below 2^40.
-/



namespace Go.Proofs.YtdiiaallklkomaaDoor
open Go.RowKit

set_option maxHeartbeats 400000 in
theorem szQm_any (A : Option Addr) (n c : Nat) (p x l : Int) (w : World) (hn : n ≤ 9223372036854775807) (h0 : 0 ≤ l) (h1 : l ≤ 1048576) :
    Calls Tryd.prog 54 #[.agg #[.int .i64 p, .slice A n c, .int .i64 x], .int .i64 l] w fun e w' => e = .returned (.int .i64 (if l < (n : Int) then -1 else l - n)) ∧ Below w.heap.size w w' := by
  by_cases h : l < (n : Int)
  · rw [if_pos h]
    have hS := fun w => szIntS_any A n c l w hn h0 h1
    rw [if_pos h] at hS
    have HS := Lib.hid hS
    clear hS
    go_enter Tryd.func54, Tryd.ntmps54
    go_wp2_with fail
    refine (HS.out _).mono ?_
    rintro e w1 ⟨rfl, rfl⟩
    go_wp2
    go_ret
    exact ⟨rfl, by go_grown⟩
  · rw [if_neg h]
    have hS := fun w => szIntS_any A n c l w hn h0 h1
    rw [if_neg h] at hS
    have HS := Lib.hid hS
    have h2 : ¬ l - (n : Int) < 0 := by omega
    clear hS
    go_enter Tryd.func54, Tryd.ntmps54
    go_wp2_with fail
    refine (HS.out _).mono ?_
    rintro e w1 ⟨rfl, rfl⟩
    obtain ⟨m, hm⟩ : ∃ m, m = l - (n : Int) := ⟨_, rfl⟩
    have HM := Lib.hid hm
    rw [← hm] at h2 ⊢
    clear hm
    go_wp2
    go_ret
    exact ⟨ret_int HM.out, by go_grown⟩

set_option maxHeartbeats 400000 in
theorem eqQm_any (A A' : Option Addr) (n c n' c' : Nat) (xs ys : List Int) (p q x y : Int) (w : World) (hs : SI w A n xs) (hs' : SI w A' n' ys) (hn : n ≤ 1099511627776) (hn' : n' ≤ 1099511627776) :
    Calls Tryd.prog 58 #[.agg #[.int .i64 p, .slice A n c, .int .i64 x], .agg #[.int .i64 q, .slice A' n' c', .int .i64 y]] w fun e w' => e = .returned (.bool (decide ((p, xs, x) = (q, ys, y)))) ∧ Below w.heap.size w w' := by
  have hE := eqIntS_any A A' n c n' c' xs ys ((w.alloc (.cells #[.int .i64 p, .slice A n c, .int .i64 x] 89)).alloc (.cells #[.int .i64 q, .slice A' n' c', .int .i64 y] 89)) ((hs.alloc _).alloc _) ((hs'.alloc _).alloc _) hn hn'
  have HE := Lib.hid hE
  clear hE hs hs'
  by_cases hpq : p = q
  · subst hpq
    cases hb : eqL xs ys with
    | false =>
      have hne : ¬ xs = ys := by simpa [eqL] using hb
      rw [hb] at HE
      have HN := Lib.hid hne
      clear hne hb
      go_enter Tryd.func58, Tryd.ntmps58
      go_wp2_with fail
      refine HE.out.mono ?_
      rintro e w1 ⟨rfl, m, rfl⟩
      go_wp2
      go_ret
      exact ⟨ret_bool (by simp [HN.out]), Below.drawnN (by go_grown) m⟩
    | true =>
      have he : xs = ys := by simpa [eqL] using hb
      rw [hb] at HE
      have HN := Lib.hid he
      clear he hb
      by_cases hxy : x = y
      · subst hxy
        go_enter Tryd.func58, Tryd.ntmps58
        go_wp2_with fail
        refine HE.out.mono ?_
        rintro e w1 ⟨rfl, m, rfl⟩
        go_wp2
        go_ret
        exact ⟨ret_bool (by simp [HN.out]), Below.drawnN (by go_grown) m⟩
      · have hb : (x != y) = true := by simpa using hxy
        have HXY := Lib.hid hxy
        clear hxy
        go_enter Tryd.func58, Tryd.ntmps58
        go_wp2_with fail
        refine HE.out.mono ?_
        rintro e w1 ⟨rfl, m, rfl⟩
        go_wp2
        go_ret
        exact ⟨ret_bool (by simp [HXY.out]), Below.drawnN (by go_grown) m⟩
  · have hb : (p != q) = true := by simpa using hpq
    have HXY := Lib.hid hpq
    clear hpq HE
    go_enter Tryd.func58, Tryd.ntmps58
    go_wp2
    go_ret
    exact ⟨ret_bool (by simp [HXY.out]), by go_grown⟩

set_option maxHeartbeats 800000 in
/-- szTermS: below 0, or everything is small. -/
theorem szQmS_any (A : Option Addr) (n c : Nat) (ts : List Qm) (w : World) (hs : QS w A n ts) (hn : n ≤ 9223372036854775807) (hne : ∀ k, k < n → (qm ts k).2.1.length ≤ 9223372036854775807) :
    Calls Tryd.prog 25 #[.slice A n c, .int .i64 1048576] w fun e w' => (∃ r : Int, e = .returned (.int .i64 r) ∧ (r < 0 ∨ (0 ≤ r ∧ n ≤ 1048576 ∧ ∀ k, k < n → (qm ts k).2.1.length ≤ 1048576))) ∧ Below w.heap.size w w' := by
  have HNE := Lib.hid hne
  clear hne
  by_cases hbig : (1048576 : Int) < (n : Int)
  · have h' : (1048576 : Int) - (n : Int) < 0 := by omega
    have hw : IntKind.i64.wrap (1048576 - (n : Int)) = 1048576 - (n : Int) := IntWalk.i64_in _ (by omega)
    go_enter Tryd.func25, Tryd.ntmps25
    go_wp2
    go_ret
    exact ⟨⟨_, rfl, .inl (by omega)⟩, Below.refl _ _⟩
  · have h' : ¬ (1048576 : Int) - (n : Int) < 0 := by omega
    have hw : IntKind.i64.wrap (1048576 - (n : Int)) = 1048576 - (n : Int) := IntWalk.i64_in _ (by omega)
    go_enter Tryd.func25, Tryd.ntmps25
    go_wp2
    go_loopw [1, 5] (fun v i wr => ∃ (k : Nat) (l : Int), k ≤ n ∧ i = .int .i64 k ∧ v = .int .i64 l ∧ 0 ≤ l ∧ l ≤ 1048576 ∧ (∀ j, j < k → (qm ts j).2.1.length ≤ 1048576) ∧ Below w.heap.size w wr)
      (fun _ i _ => n - (intOf i).toNat)
    case atStart => exact ⟨0, _, Nat.zero_le _, rfl, rfl, by omega, by omega, fun j hj => absurd hj (by omega), Below.refl _ _⟩
    case round =>
      obtain ⟨k, l, hk, rfl, rfl, hl0, hl1, hall, hbel⟩ := hrel
      have HA := Lib.hid hall
      have HB := Lib.hid hbel
      clear hall
      clear h' hw
      by_cases hlt : k < n
      · obtain ⟨b, o, A', n', c', rfl, hb, hc0, hc1, hc2, hsi⟩ := (hs.below hbel (by omega)).at_ hlt
        obtain ⟨x, hx⟩ : ∃ x, x = (qm ts k).2.2 := ⟨_, rfl⟩
        obtain ⟨p, hp⟩ : ∃ p, p = (qm ts k).1 := ⟨_, rfl⟩
        rw [← hx] at hc2
        rw [← hp] at hc0
        have hlen := hsi.1
        have hn' : n' ≤ 9223372036854775807 := by have := HNE.out k hlt; omega
        have HLEN := Lib.hid hlen
        clear hx hp hsi hbel hs hlen
        have hlI : (k : Int) < (n : Int) := by omega
        by_cases hsm : l < (n' : Int)
        · have hS := fun w => szQm_any A' n' c' p x l w hn' hl0 hl1
          rw [if_pos hsm] at hS
          have HS := Lib.hid hS
          clear hS
          go_wp2_with fail
          refine (HS.out _).mono ?_
          rintro e w2 ⟨rfl, hb2⟩
          have HB2 := Lib.hid (HB.out.trans (hb2.mono HB.out.size))
          clear hb2
          go_wp2
          go_ret
          exact ⟨⟨_, rfl, .inl (by omega)⟩, HB2.out⟩
        · have hS := fun w => szQm_any A' n' c' p x l w hn' hl0 hl1
          rw [if_neg hsm] at hS
          obtain ⟨m, hm⟩ : ∃ m, m = l - (n' : Int) := ⟨_, rfl⟩
          rw [← hm] at hS
          have HS := Lib.hid hS
          have hm0 : 0 ≤ m := by omega
          have hm1 : m ≤ 1048576 := by omega
          have hmn : ¬ m < 0 := by omega
          have hsml : n' ≤ 1048576 := by omega
          clear hS hm
          go_wp2_with fail
          refine (HS.out _).mono ?_
          rintro e w2 ⟨rfl, hb2⟩
          have HB2 := Lib.hid (HB.out.trans (hb2.mono HB.out.size))
          clear hb2
          go_wp2
          go_roundw
          case rel => exact ⟨k + 1, m, by omega, by go_num, rfl, hm0, hm1, fun j hj => by
            rcases Nat.lt_or_ge j k with h | h
            · exact HA.out j h
            · obtain rfl : j = k := by omega
              have := HLEN.out
              omega, HB2.out⟩
          case measure => simp [intOf]; omega
      · have hkn : k = n := by omega
        subst hkn
        go_wp2
        go_ret
        exact ⟨⟨l, rfl, .inr ⟨hl0, by omega, HA.out⟩⟩, HB.out⟩

set_option maxHeartbeats 1600000 in
theorem eqQmS_any (A A' : Option Addr) (n c n' c' : Nat) (ts us : List Qm) (w : World) (hs : QS w A n ts) (hs' : QS w A' n' us) (hn : n ≤ 1099511627776) (hn' : n' ≤ 1099511627776)
    (hne : ∀ k, k < n → (qm ts k).2.1.length ≤ 1099511627776) (hne' : ∀ k, k < n' → (qm us k).2.1.length ≤ 1099511627776) :
    Calls Tryd.prog 29 #[.slice A n c, .slice A' n' c'] w fun e w' => e = .returned (.bool (eqQs ts us)) ∧ Below w.heap.size w w' := by
  have HNE := Lib.hid (And.intro hne hne')
  have HL := Lib.hid (And.intro hs.1 hs'.1)
  clear hne hne'
  by_cases hnn : n = n'
  · subst hnn
    go_enter Tryd.func29, Tryd.ntmps29
    go_wp2
    go_loopw [5] (fun i wr => ∃ k : Nat, k ≤ n ∧ i = .int .i64 k ∧ (∀ j, j < k → qm ts j = qm us j) ∧ Below w.heap.size w wr)
      (fun i _ => n - (intOf i).toNat)
    case atStart => exact ⟨0, Nat.zero_le _, rfl, fun j hj => absurd hj (by omega), Below.refl _ _⟩
    case round =>
      obtain ⟨k, hk, rfl, hall, hbel⟩ := hrel
      have HA := Lib.hid hall
      have HB := Lib.hid hbel
      clear hall
      by_cases hlt : k < n
      · obtain ⟨b, o, A1, n1, c1, rfl, hb, hc0, hc1, hc2, hsi⟩ := (hs.below hbel (by omega)).at_ hlt
        obtain ⟨b', o', A2, n2, c2, rfl, hb', hc0', hc1', hc2', hsi'⟩ := (hs'.below hbel (by omega)).at_ hlt
        have hl1 : n1 ≤ 1099511627776 := by have := HNE.out.1 k hlt; have := hsi.1; omega
        have hl2 : n2 ≤ 1099511627776 := by have := HNE.out.2 k hlt; have := hsi'.1; omega
        have hlI : (k : Int) < (n : Int) := by omega
        have R1 := QS.range hc0 hc1 hc2
        have R2 := QS.range hc0' hc1' hc2'
        have call : ∀ w', AfterT wr w' → Calls Tryd.prog 58 #[.agg #[.int .i64 (qm ts k).1, .slice A1 n1 c1, .int .i64 (qm ts k).2.2], .agg #[.int .i64 (qm us k).1, .slice A2 n2 c2, .int .i64 (qm us k).2.2]] w' (fun e w'' => e = .returned (.bool (decide (qm ts k = qm us k))) ∧ AfterT wr w'') := fun w' hw' =>
          (eqQm_any A1 A2 n1 c1 n2 c2 _ _ _ _ _ _ w' (hsi.below hw' (Nat.le_refl _)) (hsi'.below hw' (Nat.le_refl _)) hl1 hl2).mono fun e w'' ⟨he, hb⟩ => ⟨he, Below.trans hw' (hb.mono hw'.size)⟩
        have LD1 : ∀ w', AfterT wr w' → w'.rangeAt b (o + k * 3) [.int .i64 (qm ts k).1, .slice A1 n1 c1, .int .i64 (qm ts k).2.2] := fun w' hw' j v hj => by
          rw [Below.cell hw' (p := ⟨b, o + k * 3 + j, none⟩) hb]; exact R1 j v hj
        have LD2 : ∀ w', AfterT wr w' → w'.rangeAt b' (o' + k * 3) [.int .i64 (qm us k).1, .slice A2 n2 c2, .int .i64 (qm us k).2.2] := fun w' hw' j v hj => by
          rw [Below.cell hw' (p := ⟨b', o' + k * 3 + j, none⟩) hb']; exact R2 j v hj
        obtain ⟨x, hx⟩ : ∃ x, x = (qm ts k).2.2 := ⟨_, rfl⟩
        obtain ⟨y, hy⟩ : ∃ y, y = (qm us k).2.2 := ⟨_, rfl⟩
        obtain ⟨p1, hp1⟩ : ∃ p, p = (qm ts k).1 := ⟨_, rfl⟩
        obtain ⟨p2, hp2⟩ : ∃ p, p = (qm us k).1 := ⟨_, rfl⟩
        obtain ⟨q, hq⟩ : ∃ q, q = decide (qm ts k = qm us k) := ⟨_, rfl⟩
        rw [← hx, ← hp1] at LD1 call
        rw [← hy, ← hp2] at LD2 call
        rw [← hq] at call
        have HQ := Lib.hid hq
        have CA := Lib.hid call
        have L1 := Lib.hid LD1
        have L2 := Lib.hid LD2
        clear hc0 hc1 hc2 hc0' hc1' hc2' hsi hsi' hs hs' hbel R1 R2 call LD1 LD2 hx hy hq hp1 hp2
        go_wp2_with fail
        refine tq_class (AfterT wr) (by kernel_rfl) (by kernel_rfl) (Below.refl _ _).drew ?_
        refine tq_move rfl _ rfl ?_
        refine tq_move rfl _ rfl ?_
        refine wpQuiet_step (fun K hK => ?_)
        go_simp
        refine ⟨.pointer (some ⟨b, o + k * 3, none⟩), fun w' _ => rfl, hK _ ?_⟩
        clear hK K
        refine tq_load rfl 89 (.tmp 19) rfl b (o + k * 3) rfl [.int .i64 p1, .slice A1 n1 c1, .int .i64 x] _ L1.out Tryd.underlying89 rfl Tryd.infoQm ?_
        refine tq_move rfl _ rfl ?_
        refine tq_move rfl _ rfl ?_
        refine wpQuiet_step (fun K hK => ?_)
        go_simp
        refine ⟨.pointer (some ⟨b', o' + k * 3, none⟩), fun w' _ => rfl, hK _ ?_⟩
        clear hK K
        refine tq_load rfl 89 (.tmp 23) rfl b' (o' + k * 3) rfl [.int .i64 p2, .slice A2 n2 c2, .int .i64 y] _ L2.out Tryd.underlying89 rfl Tryd.infoQm ?_
        refine wpQuiet_step (fun K hK => ?_)
        go_simp
        refine ⟨.bool q, fun w' hw' => CA.out w' hw', hK _ ?_⟩
        clear hK K
        refine wpQuiet_step (fun K hK => ?_)
        go_simp
        refine ⟨.bool (!q), fun w' _ => rfl, hK _ ?_⟩
        clear hK K
        refine wpQuiet_nil ?_
        intro w5 hw5
        have HB5 := Lib.hid (HB.out.trans (Below.mono hw5 HB.out.size))
        clear hw5 L1 L2 CA
        cases q with
        | true =>
          go_wp2
          go_roundw
          case rel => exact ⟨k + 1, by omega, by go_num, fun j hj => by
            rcases Nat.lt_or_ge j k with h | h
            · exact HA.out j h
            · obtain rfl : j = k := by omega
              exact of_decide_eq_true HQ.out.symm, HB5.out⟩
          case measure => simp [intOf]; omega
        | false =>
          go_wp2
          go_ret
          exact ⟨ret_bool (eqQs_ne (k := k) (of_decide_eq_false HQ.out.symm)).symm, HB5.out⟩
      · have hkn : k = n := by omega
        subst hkn
        go_wp2
        go_ret
        exact ⟨ret_bool (eqQs_all (by have := HL.out; omega) (by rw [HL.out.1]; exact HA.out)).symm, HB.out⟩
  · have hne' : ¬ (n : Int) = (n' : Int) := by omega
    go_enter Tryd.func29, Tryd.ntmps29
    go_wp2
    go_ret
    exact ⟨ret_bool (eqQs_len (by have := HL.out; omega)).symm, Below.refl _ _⟩
end Go.Proofs.YtdiiaallklkomaaDoor

/-
  Quantum parts made anew: the copies that the laws make. Conditions: lengths below 2^40.
-/






namespace Go.Proofs.YtdiiaallklkomaaDoor
open Go.RowKit

set_option maxHeartbeats 800000 in
theorem toQm_any (A : Option Addr) (n c : Nat) (xs : List Int) (p x : Int) (w : World) (hs : SI w A n xs) (hn : n ≤ 1099511627776) :
    Calls Tryd.prog 55 #[.agg #[.int .i64 p, .slice A n c, .int .i64 x]] w fun e w' => ∃ A' n' c', e = .returned (.agg #[.int .i64 p, .slice A' n' c', .int .i64 x]) ∧ Own w' w.heap.size w'.heap.size A' n' c' xs ∧ Below w.heap.size w w' := by
  obtain ⟨w0, hw0⟩ : ∃ w0, w0 = (((w.alloc (.cells #[.int .i64 p, .slice A n c, .int .i64 x] 88)).alloc (.cells #[.int .i64 0, .slice none 0 0, .int .i64 0] 89)).alloc (.cells #[.int .i64 0, .slice none 0 0, .int .i64 0] 89)) := ⟨_, rfl⟩
  obtain ⟨g1, hg1⟩ : ∃ g1, g1 = w.heap.size := ⟨_, rfl⟩
  have hK1 : Blk w0 g1 88 #[.int .i64 p, .slice A n c, .int .i64 x] := by rw [hg1, hw0]; exact ((Blk.new w _ _).alloc _).alloc _
  have hK2 : Blk w0 (g1 + 1) 89 #[.int .i64 0, .slice none 0 0, .int .i64 0] := by
    have := (Blk.new (w.alloc (.cells #[.int .i64 p, .slice A n c, .int .i64 x] 88)) 89 #[.int .i64 0, .slice none 0 0, .int .i64 0]).alloc (.cells #[.int .i64 0, .slice none 0 0, .int .i64 0] 89)
    rw [hg1, hw0]; simpa using this
  have hK3 : Blk w0 (g1 + 1 + 1) 89 #[.int .i64 0, .slice none 0 0, .int .i64 0] := by
    have := (Blk.new ((w.alloc (.cells #[.int .i64 p, .slice A n c, .int .i64 x] 88)).alloc (.cells #[.int .i64 0, .slice none 0 0, .int .i64 0] 89)) 89 #[.int .i64 0, .slice none 0 0, .int .i64 0])
    rw [hg1, hw0]; simpa using this
  have hb0 : Below w.heap.size w w0 := by rw [hw0]; go_grown
  obtain ⟨w3, hw3⟩ : ∃ w3, w3 = w0.setCell ⟨g1 + 1 + 1, 0, none⟩ (.int .i64 p) := ⟨_, rfl⟩
  have hb3 : Below w.heap.size w w3 := by rw [hw3]; exact hb0.setCell (by show w.heap.size ≤ g1 + 1 + 1; omega) _
  have k1 : Blk w3 g1 88 #[.int .i64 p, .slice A n c, .int .i64 x] := by rw [hw3]; exact hK1.far (by show g1 ≠ g1 + 1 + 1; omega) _
  have k2 : Blk w3 (g1 + 1) 89 #[.int .i64 0, .slice none 0 0, .int .i64 0] := by rw [hw3]; exact hK2.far (by show g1 + 1 ≠ g1 + 1 + 1; omega) _
  have k3 : Blk w3 (g1 + 1 + 1) 89 #[.int .i64 p, .slice none 0 0, .int .i64 0] := by rw [hw3]; exact hK3.set_ 0 _
  have hs3 := hs.below hb3 (Nat.le_refl _)
  have CA := Lib.hid (toIntS_fr A n c xs w3 hs3 hn)
  have HW3 := Lib.hid hw3
  have HW0 := Lib.hid hw0
  have HG := Lib.hid hg1
  have HB3 := Lib.hid hb3
  have H1 := Lib.hid k1
  have H2 := Lib.hid k2
  have H3 := Lib.hid k3
  have c0 : w0.cell? ⟨g1, 0, none⟩ = some (.int .i64 p) := hK1.cell 0
  have d0 : w0.cell? ⟨g1 + 1 + 1, 0, none⟩ = some (.int .i64 0) := hK3.cell 0
  have f0 := hK3.frozen 0
  have c1 : w3.cell? ⟨g1, 1, none⟩ = some (.slice A n c) := k1.cell 1
  clear hs hs3 hK1 hK2 hK3 hb0 hb3 k1 k2 k3 hw3 hw0 hg1
  go_enter Tryd.func55, Tryd.ntmps55
  go_upto_region 2 with fail
  rw [← HW0.out, ← HG.out]
  go_upto_region 3 with fail
  rw [← HW3.out]
  go_wp2_with fail
  refine CA.out.mono ?_
  rintro e w4 ⟨A4, n4, c4, rfl, ho, hb4⟩
  have hL3 := H3.out.lt
  have HB := Lib.hid (HB3.out.trans (hb4.mono HB3.out.size))
  have hw : w.heap.size = g1 := HG.out.symm
  have HO := Lib.hid ho
  have K1 := H1.out.below hb4 H1.out.lt
  have K2 := H2.out.below hb4 H2.out.lt
  have K3 := H3.out.below hb4 H3.out.lt
  have hc1 : w4.cell? ⟨g1, 2, none⟩ = some (.int .i64 x) := K1.cell 2
  have hc3 : w4.cell? ⟨g1 + 1 + 1, 0, none⟩ = some (.int .i64 p) := K3.cell 0
  have hc4 : w4.cell? ⟨g1 + 1 + 1, 1, none⟩ = some (.slice none 0 0) := K3.cell 1
  have hf4 := K3.frozen 1
  have hc5 : w4.cell? ⟨g1 + 1 + 1, 2, none⟩ = some (.int .i64 0) := K3.cell 2
  have hf5 := K3.frozen 2
  have hc6 : w4.cell? ⟨g1 + 1, 0, none⟩ = some (.int .i64 0) := K2.cell 0
  have hf6 := K2.frozen 0
  have hc7 : w4.cell? ⟨g1 + 1, 1, none⟩ = some (.slice none 0 0) := K2.cell 1
  have hf7 := K2.frozen 1
  have hc8 : w4.cell? ⟨g1 + 1, 2, none⟩ = some (.int .i64 0) := K2.cell 2
  have hf8 := K2.frozen 2
  have J2 := Lib.hid K2
  have HL := Lib.hid hL3
  clear ho hb4 K1 K2 K3 hL3 hw CA H1 H2 H3
  go_wp2
  have HG := HG.out
  have HL := HL.out
  have hsz := HB3.out.size
  have R := (((((J2.out.far (p := ⟨g1 + 1 + 1, 1, none⟩) (by show g1 + 1 ≠ g1 + 1 + 1; omega) (.slice A4 n4 c4)).far (p := ⟨g1 + 1 + 1, 2, none⟩) (by show g1 + 1 ≠ g1 + 1 + 1; omega) (.int .i64 x)).set_ 0 (.int .i64 p)).set_ 1 (.slice A4 n4 c4)).set_ 2 (.int .i64 x))
  refine bodyPost_ret (results_row Tryd.results55 _ _ (g1 + 1) 89 #[.int .i64 p, .slice A4 n4 c4, .int .i64 x] _ rfl R Tryd.underlying89 rfl (by kernel_rfl)) rfl ?_
  refine ⟨A4, n4, c4, rfl, ?_, ?_⟩
  · refine (((((HO.out.kept (grown_set _ _ _) ?_).kept (grown_set _ _ _) ?_).kept (grown_set _ _ _) ?_).kept (grown_set _ _ _) ?_).kept (grown_set _ _ _) ?_).wide (by omega) (by simp) <;>
      (intro b hb e; have := HO.out.lt b hb; injection e with e; simp only [] at e; omega)
  · exact ((((HB.out.setCell (by show w.heap.size ≤ g1 + 1 + 1; omega) _).setCell (by show w.heap.size ≤ g1 + 1 + 1; omega) _).setCell (by show w.heap.size ≤ g1 + 1; omega) _).setCell (by show w.heap.size ≤ g1 + 1; omega) _).setCell (by show w.heap.size ≤ g1 + 1; omega) _

/-- A copy under way: the block B, its first k parts stored, each with a shape of the call's own behind B. -/
def MadeQ (w : World) (B n : Nat) (ts : List Qm) (k : Nat) : Prop :=
  ∃ cs : Array Value, Blk w B 89 cs ∧ cs.size = n * 3 ∧ ∀ j, j < k → ∃ A' n' c', cs[j * 3]? = some (.int .i64 (qm ts j).1) ∧ cs[j * 3 + 1]? = some (.slice A' n' c') ∧ cs[j * 3 + 2]? = some (.int .i64 (qm ts j).2.2) ∧
    Own w (B + 1) w.heap.size A' n' c' (qm ts j).2.1
theorem MadeQ.below {w w' : World} {B n k : Nat} {ts : List Qm} (h : MadeQ w B n ts k) (hb : Below w.heap.size w w') : MadeQ w' B n ts k := by
  obtain ⟨cs, h1, h2, h3⟩ := h
  refine ⟨cs, h1.below hb h1.lt, h2, fun j hj => ?_⟩
  obtain ⟨A', n', c', e0, e1, e2, ho⟩ := h3 j hj
  exact ⟨A', n', c', e0, e1, e2, (ho.below hb (Nat.le_refl _)).wide (Nat.le_refl _) hb.size⟩
theorem MadeQ.put {w : World} {B n k : Nat} {ts : List Qm} (h : MadeQ w B n ts k) (hk : k < n) {A' : Option Addr} {n' c' : Nat} {xs : List Int} {p x : Int} (ho : Own w (B + 1) w.heap.size A' n' c' xs) (hq : qm ts k = (p, xs, x)) :
    MadeQ (((w.setCell ⟨B, k * 3, none⟩ (.int .i64 p)).setCell ⟨B, k * 3 + 1, none⟩ (.slice A' n' c')).setCell ⟨B, k * 3 + 2, none⟩ (.int .i64 x)) B n ts (k + 1) := by
  obtain ⟨cs, h1, h2, h3⟩ := h
  have gr : ∀ {A2 : Option Addr} {n2 c2 : Nat} {ys : List Int}, Own w (B + 1) w.heap.size A2 n2 c2 ys → Own (((w.setCell ⟨B, k * 3, none⟩ (.int .i64 p)).setCell ⟨B, k * 3 + 1, none⟩ (.slice A' n' c')).setCell ⟨B, k * 3 + 2, none⟩ (.int .i64 x)) (B + 1) w.heap.size A2 n2 c2 ys := fun {A2 n2 c2 ys} o => by
    refine ((o.kept (grown_set _ _ _) ?_).kept (grown_set _ _ _) ?_).kept (grown_set _ _ _) ?_ <;>
      (intro b hb e; have := o.lt b hb; injection e with e; simp only [] at e; omega)
  refine ⟨((cs.setIfInBounds (k * 3) (.int .i64 p)).setIfInBounds (k * 3 + 1) (.slice A' n' c')).setIfInBounds (k * 3 + 2) (.int .i64 x), ((h1.set_ _ _).set_ _ _).set_ _ _, by simpa using h2, fun j hj => ?_⟩
  by_cases e : j = k
  · subst e
    refine ⟨A', n', c', ?_, ?_, ?_, ?_⟩
    · rw [hq, Array.getElem?_setIfInBounds_ne (by omega), Array.getElem?_setIfInBounds_ne (by omega), Array.getElem?_setIfInBounds_self_of_lt (by omega)]
    · rw [Array.getElem?_setIfInBounds_ne (by omega), Array.getElem?_setIfInBounds_self_of_lt (by simp; omega)]
    · rw [hq, Array.getElem?_setIfInBounds_self_of_lt (by simp; omega)]
    · rw [hq]; exact (gr ho).wide (Nat.le_refl _) (by simp)
  · obtain ⟨A2, n2, c2, e0, e1, e2, o2⟩ := h3 j (by omega)
    refine ⟨A2, n2, c2, ?_, ?_, ?_, (gr o2).wide (Nat.le_refl _) (by simp)⟩
    · rw [Array.getElem?_setIfInBounds_ne (by omega), Array.getElem?_setIfInBounds_ne (by omega), Array.getElem?_setIfInBounds_ne (by omega)]; exact e0
    · rw [Array.getElem?_setIfInBounds_ne (by omega), Array.getElem?_setIfInBounds_ne (by omega), Array.getElem?_setIfInBounds_ne (by omega)]; exact e1
    · rw [Array.getElem?_setIfInBounds_ne (by omega), Array.getElem?_setIfInBounds_ne (by omega), Array.getElem?_setIfInBounds_ne (by omega)]; exact e2
theorem MadeQ.rd {w : World} {B n : Nat} {ts : List Qm} (h : MadeQ w B n ts n) (hl : ts.length = n) : QS w (some ⟨B, 0, none⟩) n ts := by
  obtain ⟨cs, h1, h2, h3⟩ := h
  refine ⟨hl, fun _ => ⟨B, 0, rfl, h1.lt, fun k hk => ?_⟩⟩
  obtain ⟨A', n', c', e0, e1, e2, ho⟩ := h3 k hk
  exact ⟨A', n', c', by rw [h1.cell, Nat.zero_add]; exact e0, by rw [h1.cell, Nat.zero_add]; exact e1, by rw [h1.cell, Nat.zero_add]; exact e2, ho.si⟩
theorem MadeQ.at_ {w : World} {B n k : Nat} {ts : List Qm} (h : MadeQ w B n ts k) : B < w.heap.size ∧ (∀ i, w.frozen? ⟨B, i, none⟩ = false) ∧ ∀ i, i < n * 3 → ∃ v, w.cell? ⟨B, i, none⟩ = some v := by
  obtain ⟨cs, h1, h2, _⟩ := h
  refine ⟨h1.lt, h1.frozen, fun i hi => ⟨cs[i]'(by omega), ?_⟩⟩
  rw [h1.cell]
  exact Array.getElem?_eq_getElem (by omega)

theorem Tryd.infoQmZ : (Tryd.prog.info? 89).map (fun i => (i.zero, i.size, i.bytes)) = some (some (.agg #[.int .i64 0, .slice none 0 0, .int .i64 0]), 3, 40) := by kernel_rfl
/-- 'make([]QPart, n)'. -/
theorem wpList_make_qms {ops : Array Oper} {rest : List Oper} {o : Oper} {a : Act} {w : World} {Q : Exit → Act → World → Prop} (hgd : o.guard = none) (l c : Operand) (ho : o.op = .makeSlice 46 l c)
    (n : Nat) (hl : a.eval l = .int .i64 n) (hc : a.eval c = .int .i64 n) (hn : n ≤ 1099511627776) (ts : List Qm)
    (hK : ∀ w', MadeQ w' w.heap.size n ts 0 → Below w.heap.size w w' → wpList Tryd.prog ops Q rest (a.put o.dst (.slice (some ⟨w.heap.size, 0, none⟩) n n)) w') :
    wpList Tryd.prog ops Q (o :: rest) a w := by
  obtain ⟨i0, hi, hz0, hz1, hz2⟩ := info_parts Tryd.infoQmZ
  refine wpList_make_full w hgd l c 46 ho w.heap.size 89 i0 (.agg #[.int .i64 0, .slice none 0 0, .int .i64 0]) 3 Tryd.underlying46 hi hz0 hz1 .i64 .i64 n n n hl hc rfl rfl (by rw [hz2]; omega) (by unfold maxLen; omega) (Nat.le_refl _) ?_
  intro w1 ho1 hg1
  refine hK w1 ?_ (grow_below hg1 (Nat.le_refl _) (by intro k hk; cases hk))
  rcases ho1.2 with ⟨e, _⟩ | ⟨g, cap, cur, e, _, hg, _, _, hsz, _⟩
  · cases e
  · injection e with e1 e2 e3
    injection e1 with e1
    injection e1 with e1
    subst e1 e3
    exact ⟨cur, hg, hsz, fun j hj => absurd hj (Nat.not_lt_zero _)⟩
set_option maxHeartbeats 800000 in
theorem toQmS_any (A : Option Addr) (n c : Nat) (ts : List Qm) (w : World) (hs : QS w A n ts) (hn : n ≤ 1099511627776) (hne : ∀ k, k < n → (qm ts k).2.1.length ≤ 1099511627776) :
    Calls Tryd.prog 27 #[.slice A n c] w fun e w' => ∃ A' c', e = .returned (.slice A' n c') ∧ QS w' A' n ts ∧ Below w.heap.size w w' := by
  have hl := hs.1
  have HNE := Lib.hid hne
  have HL := Lib.hid hl
  obtain ⟨B, hB⟩ : ∃ B, B = w.heap.size := ⟨_, rfl⟩
  have HB0 : Hid (B = w.heap.size) := hB
  clear hne
  go_enter Tryd.func27, Tryd.ntmps27
  go_wp2_with (at_make; refine wpList_make_qms rfl (.tmp 6) (.tmp 6) rfl n rfl rfl hn ts ?_; intro w1 hown hbel1)
  rw [← hB] at hown hbel1 ⊢
  go_loopw [4] (fun i wr => ∃ k : Nat, k ≤ n ∧ i = .int .i64 k ∧ MadeQ wr B n ts k ∧ Below B w wr)
    (fun i _ => n - (intOf i).toNat)
  case atStart => exact ⟨0, Nat.zero_le _, rfl, hown, hbel1⟩
  case round =>
    obtain ⟨k, hk, rfl, hown2, hbel⟩ := hrel
    clear hown hbel1 w1
    have HO := Lib.hid hown2
    have HB := Lib.hid hbel
    by_cases hlt : k < n
    · obtain ⟨b, o, A', n', c', rfl, hb, hc0, hc1, hc2, hsi⟩ := (hs.below hbel (by omega)).at_ hlt
      obtain ⟨x, hx⟩ : ∃ x, x = (qm ts k).2.2 := ⟨_, rfl⟩
      obtain ⟨p, hp⟩ : ∃ p, p = (qm ts k).1 := ⟨_, rfl⟩
      obtain ⟨xs, hxs⟩ : ∃ xs, xs = (qm ts k).2.1 := ⟨_, rfl⟩
      rw [← hx] at hc2
      rw [← hp] at hc0
      rw [← hxs] at hsi
      have hn' : n' ≤ 1099511627776 := by have := HNE.out k hlt; rw [← hxs] at this; have := hsi.1; omega
      have HQ : Hid (qm ts k = (p, xs, x)) := Lib.hid (by rw [hx, hp, hxs])
      have HSI := Lib.hid hsi
      clear hx hp hxs hown2 hbel hs hl hsi hB
      have hlI : (k : Int) < (n : Int) := by omega
      go_wp2_with fail
      refine (toQm_any _ _ _ xs p x _ HSI.out hn').mono ?_
      rintro e w2 ⟨A2, n2, c2, rfl, ho2, hb2⟩
      have hO2 := HO.out.below hb2
      obtain ⟨hBl, hfz, hcs⟩ := hO2.at_
      obtain ⟨v0, hd0⟩ := hcs (k * 3) (by omega)
      obtain ⟨v1, hd1⟩ := hcs (k * 3 + 1) (by omega)
      obtain ⟨v2, hd2⟩ := hcs (k * 3 + 2) (by omega)
      have hf0 := hfz (k * 3)
      have hf1 := hfz (k * 3 + 1)
      have hf2 := hfz (k * 3 + 2)
      have HP := Lib.hid (hO2.put hlt (ho2.wide (by have := HO.out.at_.1; omega) (Nat.le_refl _)) HQ.out)
      have HB2 := Lib.hid (HB.out.trans (hb2.mono (by have := HB.out.size; have := HB0.out; omega)))
      clear hfz hcs hO2 ho2 hb2 HSI hc0 hc1 hc2 hBl
      go_wp2
      go_roundw
      case rel => exact ⟨k + 1, by omega, by go_num, HP.out, ((HB2.out.setCell (Nat.le_refl _) _).setCell (Nat.le_refl _) _).setCell (Nat.le_refl _) _⟩
      case measure => simp [intOf]; omega
    · have hkn : k = n := by omega
      subst hkn
      go_wp2
      go_ret
      have e := HB0.out
      subst e
      exact ⟨_, _, rfl, HO.out.rd HL.out, HB.out⟩
end Go.Proofs.YtdiiaallklkomaaDoor

/-
  Lists of quantum parts that come in. No conditions.
-/




namespace Go.Proofs.YtdiiaallklkomaaDoor
open Go.ChangeShapes Go.WideShapes Go.ChangeAt Go.RowKit

set_option maxRecDepth 100000 in
theorem QS.of_trod {H : Type} {enc : TypeId × Value → H} {W : World} {q : Nat} {f : Nat → Bool} {a0 : Option Addr} {len0 cap0 : Nat} {d : DataW H} {p : List MemPlace}
    (h0 : DataW.Trod enc Tryd.prog W q f true 43 (.slice a0 len0 cap0) d p) : ∃ ts, QS W a0 len0 ts ∧ len0 ≤ 9223372036854775807 ∧ (∀ k, k < len0 → (qm ts k).2.1.length ≤ 9223372036854775807) ∧
      ∀ k, k < ts.length → (-9223372036854775808 ≤ (qm ts k).1 ∧ (qm ts k).1 ≤ 9223372036854775807) ∧ (-9223372036854775808 ≤ (qm ts k).2.2 ∧ (qm ts k).2.2 ≤ 9223372036854775807) ∧ FitI (qm ts k).2.1 := by
  obtain ⟨fuel, hf⟩ := h0
  rcases Go.Deep.open_slice Tryd.underlying43 hf with ⟨hcs, _⟩ | ⟨a, len, cap, m, n, D, Pl, hcs, hb, hl, hm, hmm, _, hx⟩
  · simp [Value.cells] at hcs
    obtain ⟨rfl, rfl, rfl⟩ := hcs
    exact ⟨[], QS.nil _ _, by omega, fun k hk => absurd hk (by omega), fun k hk => absurd hk (Nat.not_lt_zero _)⟩
  · simp [Value.cells] at hcs
    obtain ⟨rfl, rfl, rfl⟩ := hcs
    have hlm : len0 ≤ m := by rw [hmm]; split <;> omega
    have each : ∀ i, i < len0 → ∃ t : Qm, ∃ A' n' c', W.cell? (a.add (i * 3)) = some (.int .i64 t.1) ∧ W.cell? (a.add (i * 3 + 1)) = some (.slice A' n' c') ∧ W.cell? (a.add (i * 3 + 2)) = some (.int .i64 t.2.2) ∧ SI W A' n' t.2.1 ∧
        n' ≤ 9223372036854775807 ∧ (-9223372036854775808 ≤ t.1 ∧ t.1 ≤ 9223372036854775807) ∧ (-9223372036854775808 ≤ t.2.2 ∧ t.2.2 ≤ 9223372036854775807) ∧ FitI t.2.1 := by
      intro i hi
      obtain ⟨cs', h1, h2⟩ := hx i (by omega)
      rw [show Tryd.prog.cellsOf 88 = 3 by kernel_rfl] at h1
      obtain ⟨_, hlen, hcell⟩ := World.cells?_some h1
      obtain ⟨xs, k, hk, hxy, _, hxl, hf⟩ := DataW.trod_struct Tryd.underlying88 h2
      match xs, hxl, cs', hlen with
      | [y0, y1, y2], _, [v0, v1, v2], _ =>
        have g0 := hf 0 _ rfl
        have g1 := hf 1 _ rfl
        have g2 := hf 2 _ rfl
        have ci : Tryd.prog.cellsOf 3 = 1 := by kernel_rfl
        have cl : Tryd.prog.cellsOf 24 = 1 := by kernel_rfl
        simp [ci, cl] at g0 g1 g2
        have e0 := hcell 0 (by omega)
        have e1 := hcell 1 (by omega)
        have e2 := hcell 2 (by omega)
        rw [Go.Deep.add_add] at e0 e1 e2
        obtain ⟨z0, hz0, _, wz0⟩ := DataW.trod_int Tryd.underlying3 g0
        obtain ⟨z2, hz2, _, wz2⟩ := DataW.trod_int Tryd.underlying3 g2
        simp at hz0 hz2
        subst hz0 hz2
        rcases open_ints Tryd.underlying24 Tryd.underlying3 (by kernel_rfl) g1 with ⟨hcs, _⟩ | ⟨x, l, c, zs, hcs, _, hl, hm, hzs, _, hcell1, hwf⟩
        · simp at hcs
          subst hcs
          exact ⟨(z0, [], z2), none, 0, 0, by simpa using e0, by simpa using e1, by simpa using e2, SI.nil _ _, by omega, bounds_i64 wz0, bounds_i64 wz2, fun k hk => absurd hk (Nat.not_lt_zero _)⟩
        · simp at hcs
          subst hcs
          exact ⟨(z0, zs.take l, z2), some x, l, c, by simpa using e0, by simpa using e1, by simpa using e2, SI.of_cells (by rw [hzs]; split <;> omega) hcell1, by unfold maxLen at hm; omega, bounds_i64 wz0, bounds_i64 wz2,
            fitI_of fun z hz => bounds_i64 (hwf z (List.mem_of_mem_take hz))⟩
    obtain ⟨T, hT⟩ := Go.Deep.choose_lt each
    refine ⟨(List.range len0).map T, ⟨by simp, fun hn => ?_⟩, by unfold maxLen at hm; omega, fun k hk => ?_, fun k hk => ?_⟩
    · obtain ⟨b, o, s⟩ := a
      obtain ⟨_, _, _, h1, _⟩ := hT 0 (by omega)
      have hs : s = none := by simpa [Addr.add] using World.cell?_spot h1
      subst hs
      refine ⟨b, o, rfl, block_lt_of_cell (a := ⟨b, o, none⟩) (by simpa [Addr.add] using h1), fun k hk => ?_⟩
      obtain ⟨A', n', c', e0, e1, e2, hsi, _⟩ := hT k hk
      rw [add_pt] at e0 e1 e2
      have et : qm ((List.range len0).map T) k = T k := by simp [qm, List.getD, hk]
      rw [et]
      exact ⟨A', n', c', e0, e1, e2, hsi⟩
    · obtain ⟨A', n', c', _, _, _, hsi, hle, _⟩ := hT k hk
      have et : qm ((List.range len0).map T) k = T k := by simp [qm, List.getD, hk]
      rw [et, hsi.1]
      exact hle
    · have hk2 : k < len0 := by simpa using hk
      obtain ⟨A', n', c', _, _, _, _, _, hz⟩ := hT k hk2
      have et : qm ((List.range len0).map T) k = T k := by simp [qm, List.getD, hk2]
      rw [et]
      exact hz
end Go.Proofs.YtdiiaallklkomaaDoor

/-
  Sums of quantum parts as texts: the document's FormatQParts. Conditions: at most 2^20 parts, numbers that an int holds.
-/




namespace Go.Proofs.YtdiiaallklkomaaDoor
open Go.RowKit

/-- A quantum part's text. -/
def paQ (t : Qm) : List Int := txtL t.2.2 ++ [58, 113] ++ txtL t.1 ++ [58] ++ fmsL t.2.1
def FitQ (ts : List Qm) : Prop := ∀ k, k < ts.length → (-9223372036854775808 ≤ (qm ts k).1 ∧ (qm ts k).1 ≤ 9223372036854775807) ∧ (-9223372036854775808 ≤ (qm ts k).2.2 ∧ (qm ts k).2.2 ≤ 9223372036854775807) ∧ FitI (qm ts k).2.1
theorem paQ_len {ts : List Qm} (hf : FitQ ts) (hne : ∀ k, k < ts.length → (qm ts k).2.1.length ≤ 1048576) (k : Nat) : (paQ (qm ts k)).length ≤ 23068717 := by
  have hx : (txtL (qm ts k).1).length ≤ 21 ∧ (txtL (qm ts k).2.2).length ≤ 21 ∧ (fmsL (qm ts k).2.1).length ≤ 23068672 := by
    rcases Nat.lt_or_ge k ts.length with hk | hk
    · obtain ⟨h1, h2, h3⟩ := hf k hk
      have h4 := txP_len h3 (qm ts k).2.1.length (Nat.le_refl _)
      have h5 := hne k hk
      exact ⟨txtL_len h1, txtL_len h2, by unfold fmsL; omega⟩
    · have e : qm ts k = (0, [], 0) := by unfold qm; simp [List.getD, List.getElem?_eq_none hk]
      rw [e]
      exact ⟨txtL_len (by decide), txtL_len (by decide), by unfold fmsL; simp [txP]⟩
  unfold paQ
  rw [List.length_append, List.length_append, List.length_append, List.length_append]
  simp
  omega
set_option maxRecDepth 100000 in
set_option maxHeartbeats 4000000 in
theorem specFqp_any (A : Option Addr) (n c : Nat) (ts : List Qm) (w : World) (hs : QS w A n ts) (hn : n ≤ 1048576) (hne : ∀ k, k < n → (qm ts k).2.1.length ≤ 1048576) (hf : FitQ ts) :
    Calls Tryd.prog 26 #[.slice A n c] w fun e w' => e = .returned (.string (strOfNums (sumL (fun k => paQ (qm ts k)) n))) ∧ Below w.heap.size w w' := by
  have HL := Lib.hid hs.1
  have HE : Hid (True) := Lib.hid trivial
  have HF := Lib.hid hf
  have HNE := Lib.hid hne
  clear hf hne HE
  by_cases hn0 : n = 0
  · subst hn0
    clear hs
    go_enter Tryd.func26, Tryd.ntmps26
    go_wp2
    go_ret
    exact ⟨rfl, Below.refl _ _⟩
  · have HZ0 : Hid (sumL (fun k => paQ (qm ts k)) n = jnP (fun k => paQ (qm ts k)) n) := Lib.hid (by unfold sumL; rw [if_neg hn0])
    have hnI : ¬ (n : Int) = 0 := by omega
    go_enter Tryd.func26, Tryd.ntmps26
    go_wp2
    rw [show ((n : Int) == 0) = false by simp; omega]
    go_loopw [3, 4] (fun sv iv wr => ∃ k : Nat, k ≤ n ∧ iv = .int .i64 k ∧ sv = .string (strOfNums (jnP (fun k => paQ (qm ts k)) k)) ∧ Below w.heap.size w wr)
        (fun _ iv _ => n - (intOf iv).toNat)
    case atStart => exact ⟨0, Nat.zero_le _, rfl, rfl, Below.refl _ _⟩
    case round =>
      obtain ⟨k, hk, rfl, rfl, hb⟩ := hrel
      have HB := Lib.hid hb
      clear hb hn0 hnI
      by_cases hlt : k < n
      · have hlI : (k : Int) < (n : Int) := by omega
        obtain ⟨b, o, A', n', c', rfl, hb, hc0, hc1, hc2, hsi⟩ := (hs.below HB.out (Nat.le_refl _)).at_ hlt
        have HSI := Lib.hid hsi
        have HX := Lib.hid (HF.out k (by rw [HL.out]; exact hlt))
        have HLE := Lib.hid (HNE.out k hlt)
        have HN' : Hid (n' ≤ 1048576) := Lib.hid (by have h1 := hsi.1; have h2 := HLE.out; omega)
        obtain ⟨x, hx⟩ : ∃ x, x = (qm ts k).2.2 := ⟨_, rfl⟩
        obtain ⟨p, hp⟩ : ∃ p, p = (qm ts k).1 := ⟨_, rfl⟩
        obtain ⟨xs, hxs⟩ : ∃ xs, xs = (qm ts k).2.1 := ⟨_, rfl⟩
        rw [← hx, ← hp, ← hxs] at HX
        rw [← hx] at hc2
        rw [← hp] at hc0
        rw [← hxs] at HSI HLE
        have HXE : Hid (paQ (qm ts k) = txtL x ++ [58, 113] ++ txtL p ++ [58] ++ fmsL xs) := Lib.hid (by rw [hx, hp, hxs]; rfl)
        obtain ⟨s1, hs1⟩ : ∃ s, s = strOfNums (txtL x) := ⟨_, rfl⟩
        obtain ⟨s2, hs2⟩ : ∃ s, s = strOfNums (txtL p) := ⟨_, rfl⟩
        obtain ⟨s3, hs3⟩ : ∃ s, s = strOfNums (fmsL xs) := ⟨_, rfl⟩
        have HZ1 : Hid (s1.size ≤ 21) := Lib.hid (by rw [hs1, strOfNums_size]; exact txtL_len HX.out.2.1)
        have HZ2 : Hid (s2.size ≤ 21) := Lib.hid (by rw [hs2, strOfNums_size]; exact txtL_len HX.out.1)
        have HZ3 : Hid (s3.size ≤ 23068672) := Lib.hid (by rw [hs3, strOfNums_size]; have h3 := txP_len HX.out.2.2 xs.length (Nat.le_refl _); have := HLE.out; unfold fmsL; omega)
        have CA1 : Hid (∀ u, AfterT wr u → Calls Tryd.prog 9 #[.int .i64 x] u (fun r u2 => r = .returned (.string s1) ∧ AfterT wr u2)) := Lib.hid (fun u hu => by rw [hs1]; exact (specFmt_any x u HX.out.2.1.1 HX.out.2.1.2).mono fun r u2 ⟨e1, e2⟩ => ⟨e1, Below.trans hu (e2.mono hu.size)⟩)
        have CA2 : Hid (∀ u, AfterT wr u → Calls Tryd.prog 9 #[.int .i64 p] u (fun r u2 => r = .returned (.string s2) ∧ AfterT wr u2)) := Lib.hid (fun u hu => by rw [hs2]; exact (specFmt_any p u HX.out.1.1 HX.out.1.2).mono fun r u2 ⟨e1, e2⟩ => ⟨e1, Below.trans hu (e2.mono hu.size)⟩)
        have CA3 : Hid (∀ u, AfterT wr u → Calls Tryd.prog 11 #[.slice A' n' c'] u (fun r u2 => r = .returned (.string s3) ∧ AfterT wr u2)) := Lib.hid (fun u hu => by rw [hs3]; exact (specFms_any A' n' c' xs u (HSI.out.below hu (Nat.le_refl _)) HN'.out HX.out.2.2).mono fun r u2 ⟨e1, e2⟩ => ⟨e1, Below.trans hu (e2.mono hu.size)⟩)
        have C0 : Hid (∀ u, AfterT wr u → u.cell? ⟨b, o + k * 3, none⟩ = some (.int .i64 p)) := Lib.hid (fun u hu => (Below.cell hu (p := ⟨b, o + k * 3, none⟩) hb).trans hc0)
        have C1 : Hid (∀ u, AfterT wr u → u.cell? ⟨b, o + k * 3 + 1, none⟩ = some ((.slice A' n' c'))) := Lib.hid (fun u hu => (Below.cell hu (p := ⟨b, o + k * 3 + 1, none⟩) hb).trans hc1)
        have C2 : Hid (∀ u, AfterT wr u → u.cell? ⟨b, o + k * 3 + 2, none⟩ = some (.int .i64 x)) := Lib.hid (fun u hu => (Below.cell hu (p := ⟨b, o + k * 3 + 2, none⟩) hb).trans hc2)
        obtain ⟨t, ht⟩ : ∃ t, t = strOfNums (jnP (fun k => paQ (qm ts k)) k) := ⟨_, rfl⟩
        have HTZ : Hid (t.size ≤ 24189400000000) := Lib.hid (by rw [ht, strOfNums_size]; have h1 := jnP_len (paQ_len HF.out (by rw [HL.out]; exact HNE.out)) k; omega)
        have HTE := Lib.hid ht
        have hpc : strOfNums (paQ (qm ts k)) = s1 ++ (⟨#[58, 113]⟩ : ByteArray) ++ s2 ++ (⟨#[58]⟩ : ByteArray) ++ s3 := by rw [HXE.out, strOfNums_append, strOfNums_append, strOfNums_append, strOfNums_append, hs1, hs2, hs3]; rfl
        have HPC := Lib.hid hpc
        rw [← ht]
        clear hsi hc0 hc1 hc2 hx hp hxs hs1 hs2 hs3 ht hpc hs hb
        rcases Nat.eq_zero_or_pos k with h0 | h0
        · subst h0
          have HN1 : Hid (strOfNums (jnP (fun k => paQ (qm ts k)) 1) = t ++ s1 ++ (⟨#[58, 113]⟩ : ByteArray) ++ s2 ++ (⟨#[58]⟩ : ByteArray) ++ s3) := Lib.hid (by rw [jnP_first, HPC.out, HTE.out]; show _ = strOfNums [] ++ s1 ++ _ ++ s2 ++ _ ++ s3; rw [show strOfNums [] = ByteArray.empty from rfl, ByteArray.empty_append])
          rw [Nat.zero_mul, Nat.add_zero] at C0 C1 C2
          go_upto_region 9 with fail
          refine tq_class (AfterT wr) (by kernel_rfl) (by kernel_rfl) (Below.refl _ _).drew ?_
          go_big_quiet_want
          go_big_quiet_op
          first | go_big_quiet_on | (refine ⟨_, fun _ _ => rfl, ?_⟩; go_big_quiet_on)
          go_big_quiet_want
          go_big_quiet_op
          first | go_big_quiet_on | (refine ⟨_, fun _ _ => rfl, ?_⟩; go_big_quiet_on)
          go_big_quiet_want
          go_big_quiet_op
          first | go_big_quiet_on | (refine ⟨_, fun _ _ => rfl, ?_⟩; go_big_quiet_on)
          go_big_quiet_want
          go_big_quiet_op
          first | go_big_quiet_on | (refine ⟨_, fun _ _ => rfl, ?_⟩; go_big_quiet_on)
          go_big_quiet_want
          go_big_quiet_op
          first | go_big_quiet_on | (refine ⟨_, fun _ _ => rfl, ?_⟩; go_big_quiet_on)
          go_big_quiet_want
          refine quiet_loadcell0 3 (.tmp 22) rfl b (o + 2) rfl _ C2.out rfl ?_
          go_big_quiet_on
          go_simp
          go_big_quiet_want
          go_big_quiet_op
          refine ⟨.string s1, fun u hu => CA1.out u hu, ?_⟩
          go_big_quiet_on
          go_big_quiet_want
          go_big_quiet_op
          refine ⟨.string (t ++ s1), fun u hu => by rw [if_neg (by have := HTZ.out; have := HZ3.out; have e113 : (⟨#[58, 113]⟩ : ByteArray).size = 2 := rfl; have := HZ1.out; have := HZ2.out; have e58 : (⟨#[58]⟩ : ByteArray).size = 1 := rfl; have e44 : (⟨#[44, 32]⟩ : ByteArray).size = 2 := rfl; (try simp only [ByteArray.size_append]); omega)]; exact ⟨rfl, rfl⟩, ?_⟩
          go_big_quiet_on
          go_big_quiet_want
          go_big_quiet_op
          refine ⟨.string (t ++ s1 ++ (⟨#[58, 113]⟩ : ByteArray)), fun u hu => by rw [if_neg (by have := HTZ.out; have := HZ3.out; have e113 : (⟨#[58, 113]⟩ : ByteArray).size = 2 := rfl; have := HZ1.out; have := HZ2.out; have e58 : (⟨#[58]⟩ : ByteArray).size = 1 := rfl; have e44 : (⟨#[44, 32]⟩ : ByteArray).size = 2 := rfl; (try simp only [ByteArray.size_append]); omega)]; exact ⟨rfl, rfl⟩, ?_⟩
          go_big_quiet_on
          go_big_quiet_want
          go_big_quiet_op
          first | go_big_quiet_on | (refine ⟨_, fun _ _ => rfl, ?_⟩; go_big_quiet_on)
          go_big_quiet_want
          go_big_quiet_op
          first | go_big_quiet_on | (refine ⟨_, fun _ _ => rfl, ?_⟩; go_big_quiet_on)
          go_big_quiet_want
          go_big_quiet_op
          first | go_big_quiet_on | (refine ⟨_, fun _ _ => rfl, ?_⟩; go_big_quiet_on)
          go_big_quiet_want
          go_big_quiet_op
          first | go_big_quiet_on | (refine ⟨_, fun _ _ => rfl, ?_⟩; go_big_quiet_on)
          go_big_quiet_want
          refine quiet_loadcell0 3 (.tmp 30) rfl b o rfl _ C0.out rfl ?_
          go_big_quiet_on
          go_simp
          go_big_quiet_want
          go_big_quiet_op
          refine ⟨.string s2, fun u hu => CA2.out u hu, ?_⟩
          go_big_quiet_on
          go_big_quiet_want
          go_big_quiet_op
          refine ⟨.string (t ++ s1 ++ (⟨#[58, 113]⟩ : ByteArray) ++ s2), fun u hu => by rw [if_neg (by have := HTZ.out; have := HZ3.out; have e113 : (⟨#[58, 113]⟩ : ByteArray).size = 2 := rfl; have := HZ1.out; have := HZ2.out; have e58 : (⟨#[58]⟩ : ByteArray).size = 1 := rfl; have e44 : (⟨#[44, 32]⟩ : ByteArray).size = 2 := rfl; (try simp only [ByteArray.size_append]); omega)]; exact ⟨rfl, rfl⟩, ?_⟩
          go_big_quiet_on
          go_big_quiet_want
          go_big_quiet_op
          refine ⟨.string (t ++ s1 ++ (⟨#[58, 113]⟩ : ByteArray) ++ s2 ++ (⟨#[58]⟩ : ByteArray)), fun u hu => by rw [if_neg (by have := HTZ.out; have := HZ3.out; have e113 : (⟨#[58, 113]⟩ : ByteArray).size = 2 := rfl; have := HZ1.out; have := HZ2.out; have e58 : (⟨#[58]⟩ : ByteArray).size = 1 := rfl; have e44 : (⟨#[44, 32]⟩ : ByteArray).size = 2 := rfl; (try simp only [ByteArray.size_append]); omega)]; exact ⟨rfl, rfl⟩, ?_⟩
          go_big_quiet_on
          go_big_quiet_want
          go_big_quiet_op
          first | go_big_quiet_on | (refine ⟨_, fun _ _ => rfl, ?_⟩; go_big_quiet_on)
          go_big_quiet_want
          go_big_quiet_op
          first | go_big_quiet_on | (refine ⟨_, fun _ _ => rfl, ?_⟩; go_big_quiet_on)
          go_big_quiet_want
          go_big_quiet_op
          first | go_big_quiet_on | (refine ⟨_, fun _ _ => rfl, ?_⟩; go_big_quiet_on)
          go_big_quiet_want
          go_big_quiet_op
          first | go_big_quiet_on | (refine ⟨_, fun _ _ => rfl, ?_⟩; go_big_quiet_on)
          go_big_quiet_want
          refine quiet_loadcell1 24 (.tmp 38) rfl b (o + 1) rfl _ C1.out rfl ?_
          go_big_quiet_on
          go_simp
          go_big_quiet_want
          go_big_quiet_op
          refine ⟨.string s3, fun u hu => CA3.out u hu, ?_⟩
          go_big_quiet_on
          go_big_quiet_want
          go_big_quiet_op
          refine ⟨.string (t ++ s1 ++ (⟨#[58, 113]⟩ : ByteArray) ++ s2 ++ (⟨#[58]⟩ : ByteArray) ++ s3), fun u hu => by rw [if_neg (by have := HTZ.out; have := HZ3.out; have e113 : (⟨#[58, 113]⟩ : ByteArray).size = 2 := rfl; have := HZ1.out; have := HZ2.out; have e58 : (⟨#[58]⟩ : ByteArray).size = 1 := rfl; have e44 : (⟨#[44, 32]⟩ : ByteArray).size = 2 := rfl; (try simp only [ByteArray.size_append]); omega)]; exact ⟨rfl, rfl⟩, ?_⟩
          go_big_quiet_on
          go_big_quiet_want
          go_big_quiet_op
          first | go_big_quiet_on | (refine ⟨_, fun _ _ => rfl, ?_⟩; go_big_quiet_on)
          refine wpQuiet_nil ?_
          intro w6 hw6
          have HB6 : Hid (Below w.heap.size w w6) := Lib.hid (HB.out.trans (Below.mono hw6 HB.out.size))
          clear hw6
          go_wp2
          go_roundw
          case rel => exact ⟨1, by omega, by go_num, by rw [HN1.out], HB6.out⟩
          case measure => simp [intOf]; omega
        · have hk0 : (0 : Int) < (k : Int) := by omega
          have HN1 : Hid (strOfNums (jnP (fun k => paQ (qm ts k)) (k + 1)) = t ++ (⟨#[44, 32]⟩ : ByteArray) ++ s1 ++ (⟨#[58, 113]⟩ : ByteArray) ++ s2 ++ (⟨#[58]⟩ : ByteArray) ++ s3) := Lib.hid (by rw [jnP_more (by omega), strOfNums_append, strOfNums_append, HPC.out, HTE.out, show strOfNums [44, 32] = (⟨#[44, 32]⟩ : ByteArray) from rfl]; simp only [ByteArray.append_assoc])
          have hsp : (⟨#[44, 32]⟩ : ByteArray).size = 2 := rfl
          have htz := HTZ.out
          go_upto_region 9 with fail
          all_goals try (exfalso; omega)
          refine tq_class (AfterT wr) (by kernel_rfl) (by kernel_rfl) (Below.refl _ _).drew ?_
          go_big_quiet_want
          go_big_quiet_op
          first | go_big_quiet_on | (refine ⟨_, fun _ _ => rfl, ?_⟩; go_big_quiet_on)
          go_big_quiet_want
          go_big_quiet_op
          first | go_big_quiet_on | (refine ⟨_, fun _ _ => rfl, ?_⟩; go_big_quiet_on)
          go_big_quiet_want
          go_big_quiet_op
          first | go_big_quiet_on | (refine ⟨_, fun _ _ => rfl, ?_⟩; go_big_quiet_on)
          go_big_quiet_want
          go_big_quiet_op
          first | go_big_quiet_on | (refine ⟨_, fun _ _ => rfl, ?_⟩; go_big_quiet_on)
          go_big_quiet_want
          go_big_quiet_op
          first | go_big_quiet_on | (refine ⟨_, fun _ _ => rfl, ?_⟩; go_big_quiet_on)
          go_big_quiet_want
          refine quiet_loadcell0 3 (.tmp 22) rfl b (o + k * 3 + 2) rfl _ C2.out rfl ?_
          go_big_quiet_on
          go_simp
          go_big_quiet_want
          go_big_quiet_op
          refine ⟨.string s1, fun u hu => CA1.out u hu, ?_⟩
          go_big_quiet_on
          go_big_quiet_want
          go_big_quiet_op
          refine ⟨.string (t ++ (⟨#[44, 32]⟩ : ByteArray) ++ s1), fun u hu => by rw [if_neg (by have := HTZ.out; have := HZ3.out; have e113 : (⟨#[58, 113]⟩ : ByteArray).size = 2 := rfl; have := HZ1.out; have := HZ2.out; have e58 : (⟨#[58]⟩ : ByteArray).size = 1 := rfl; have e44 : (⟨#[44, 32]⟩ : ByteArray).size = 2 := rfl; (try simp only [ByteArray.size_append]); omega)]; exact ⟨rfl, rfl⟩, ?_⟩
          go_big_quiet_on
          go_big_quiet_want
          go_big_quiet_op
          refine ⟨.string (t ++ (⟨#[44, 32]⟩ : ByteArray) ++ s1 ++ (⟨#[58, 113]⟩ : ByteArray)), fun u hu => by rw [if_neg (by have := HTZ.out; have := HZ3.out; have e113 : (⟨#[58, 113]⟩ : ByteArray).size = 2 := rfl; have := HZ1.out; have := HZ2.out; have e58 : (⟨#[58]⟩ : ByteArray).size = 1 := rfl; have e44 : (⟨#[44, 32]⟩ : ByteArray).size = 2 := rfl; (try simp only [ByteArray.size_append]); omega)]; exact ⟨rfl, rfl⟩, ?_⟩
          go_big_quiet_on
          go_big_quiet_want
          go_big_quiet_op
          first | go_big_quiet_on | (refine ⟨_, fun _ _ => rfl, ?_⟩; go_big_quiet_on)
          go_big_quiet_want
          go_big_quiet_op
          first | go_big_quiet_on | (refine ⟨_, fun _ _ => rfl, ?_⟩; go_big_quiet_on)
          go_big_quiet_want
          go_big_quiet_op
          first | go_big_quiet_on | (refine ⟨_, fun _ _ => rfl, ?_⟩; go_big_quiet_on)
          go_big_quiet_want
          go_big_quiet_op
          first | go_big_quiet_on | (refine ⟨_, fun _ _ => rfl, ?_⟩; go_big_quiet_on)
          go_big_quiet_want
          refine quiet_loadcell0 3 (.tmp 30) rfl b (o + k * 3) rfl _ C0.out rfl ?_
          go_big_quiet_on
          go_simp
          go_big_quiet_want
          go_big_quiet_op
          refine ⟨.string s2, fun u hu => CA2.out u hu, ?_⟩
          go_big_quiet_on
          go_big_quiet_want
          go_big_quiet_op
          refine ⟨.string (t ++ (⟨#[44, 32]⟩ : ByteArray) ++ s1 ++ (⟨#[58, 113]⟩ : ByteArray) ++ s2), fun u hu => by rw [if_neg (by have := HTZ.out; have := HZ3.out; have e113 : (⟨#[58, 113]⟩ : ByteArray).size = 2 := rfl; have := HZ1.out; have := HZ2.out; have e58 : (⟨#[58]⟩ : ByteArray).size = 1 := rfl; have e44 : (⟨#[44, 32]⟩ : ByteArray).size = 2 := rfl; (try simp only [ByteArray.size_append]); omega)]; exact ⟨rfl, rfl⟩, ?_⟩
          go_big_quiet_on
          go_big_quiet_want
          go_big_quiet_op
          refine ⟨.string (t ++ (⟨#[44, 32]⟩ : ByteArray) ++ s1 ++ (⟨#[58, 113]⟩ : ByteArray) ++ s2 ++ (⟨#[58]⟩ : ByteArray)), fun u hu => by rw [if_neg (by have := HTZ.out; have := HZ3.out; have e113 : (⟨#[58, 113]⟩ : ByteArray).size = 2 := rfl; have := HZ1.out; have := HZ2.out; have e58 : (⟨#[58]⟩ : ByteArray).size = 1 := rfl; have e44 : (⟨#[44, 32]⟩ : ByteArray).size = 2 := rfl; (try simp only [ByteArray.size_append]); omega)]; exact ⟨rfl, rfl⟩, ?_⟩
          go_big_quiet_on
          go_big_quiet_want
          go_big_quiet_op
          first | go_big_quiet_on | (refine ⟨_, fun _ _ => rfl, ?_⟩; go_big_quiet_on)
          go_big_quiet_want
          go_big_quiet_op
          first | go_big_quiet_on | (refine ⟨_, fun _ _ => rfl, ?_⟩; go_big_quiet_on)
          go_big_quiet_want
          go_big_quiet_op
          first | go_big_quiet_on | (refine ⟨_, fun _ _ => rfl, ?_⟩; go_big_quiet_on)
          go_big_quiet_want
          go_big_quiet_op
          first | go_big_quiet_on | (refine ⟨_, fun _ _ => rfl, ?_⟩; go_big_quiet_on)
          go_big_quiet_want
          refine quiet_loadcell1 24 (.tmp 38) rfl b (o + k * 3 + 1) rfl _ C1.out rfl ?_
          go_big_quiet_on
          go_simp
          go_big_quiet_want
          go_big_quiet_op
          refine ⟨.string s3, fun u hu => CA3.out u hu, ?_⟩
          go_big_quiet_on
          go_big_quiet_want
          go_big_quiet_op
          refine ⟨.string (t ++ (⟨#[44, 32]⟩ : ByteArray) ++ s1 ++ (⟨#[58, 113]⟩ : ByteArray) ++ s2 ++ (⟨#[58]⟩ : ByteArray) ++ s3), fun u hu => by rw [if_neg (by have := HTZ.out; have := HZ3.out; have e113 : (⟨#[58, 113]⟩ : ByteArray).size = 2 := rfl; have := HZ1.out; have := HZ2.out; have e58 : (⟨#[58]⟩ : ByteArray).size = 1 := rfl; have e44 : (⟨#[44, 32]⟩ : ByteArray).size = 2 := rfl; (try simp only [ByteArray.size_append]); omega)]; exact ⟨rfl, rfl⟩, ?_⟩
          go_big_quiet_on
          go_big_quiet_want
          go_big_quiet_op
          first | go_big_quiet_on | (refine ⟨_, fun _ _ => rfl, ?_⟩; go_big_quiet_on)
          refine wpQuiet_nil ?_
          intro w6 hw6
          have HB6 : Hid (Below w.heap.size w w6) := Lib.hid (HB.out.trans (Below.mono hw6 HB.out.size))
          clear hw6
          go_wp2
          go_roundw
          case rel => exact ⟨k + 1, by omega, by go_num, by rw [HN1.out], HB6.out⟩
          case measure => simp [intOf]; omega
      · obtain rfl : k = n := by omega
        go_wp2
        go_ret
        exact ⟨by rw [HZ0.out]; rfl, HB.out⟩
end Go.Proofs.YtdiiaallklkomaaDoor

/-
  Sums of quantum parts as texts: the program's FormatQParts. Conditions: the library's table; at most 2^20 parts, numbers that an int holds.
-/



namespace Go.Proofs.YtdiiaallklkomaaDoor
open Go.RowKit

set_option maxRecDepth 100000 in
set_option maxHeartbeats 2000000 in
theorem qpFmt_any (A : Option Addr) (n c : Nat) (xs : List Int) (p x : Int) (w : World) (hs : SI w A n xs) (hn : n ≤ 1048576) (hf : FitI xs) (hp : -9223372036854775808 ≤ p ∧ p ≤ 9223372036854775807) (hx : -9223372036854775808 ≤ x ∧ x ≤ 9223372036854775807) (htab : Lib.TabIs Tryd.prog w "internal/strconv.uint64pow10" .u64 Lib.pow10Tab) :
    Calls Tryd.prog 57 #[.agg #[.int .i64 p, .slice A n c, .int .i64 x]] w fun e w' => e = .returned (.string (strOfNums (paQ (p, xs, x)))) ∧ Below w.heap.size w w' := by
  obtain ⟨w1, hw1⟩ : ∃ w1, w1 = w.alloc (.cells #[.int .i64 p, .slice A n c, .int .i64 x] 89) := ⟨_, rfl⟩
  obtain ⟨g, hg⟩ : ∃ g, g = w.heap.size := ⟨_, rfl⟩
  have hk : Blk w1 g 89 #[.int .i64 p, .slice A n c, .int .i64 x] := by rw [hw1, hg]; exact Blk.new _ _ _
  have hb : Below w.heap.size w w1 := by rw [hw1]; exact Below.alloc_self _ _
  have HB := Lib.hid hb
  have HW := Lib.hid hw1
  have HG := Lib.hid hg
  have HK := Lib.hid hk
  have HS := Lib.hid (hs.below hb (Nat.le_refl _))
  have HX := Lib.hid hx
  have HP := Lib.hid hp
  have HN := Lib.hid hn
  have HF := Lib.hid hf
  have HTB := Lib.hid (fun (u : World) (hu : Below w.heap.size w u) => tab_below htab hu)
  obtain ⟨s1, hs1⟩ : ∃ s, s = strOfNums (txtL x) := ⟨_, rfl⟩
  obtain ⟨s2, hs2⟩ : ∃ s, s = strOfNums (txtL p) := ⟨_, rfl⟩
  obtain ⟨s3, hs3⟩ : ∃ s, s = strOfNums (fmsL xs) := ⟨_, rfl⟩
  have HZ1 : Hid (s1.size ≤ 21) := Lib.hid (by rw [hs1, strOfNums_size]; exact txtL_len hx)
  have HZ2 : Hid (s2.size ≤ 21) := Lib.hid (by rw [hs2, strOfNums_size]; exact txtL_len hp)
  have HZ3 : Hid (s3.size ≤ 23068672) := Lib.hid (by rw [hs3, strOfNums_size]; have h3 := txP_len hf xs.length (Nat.le_refl _); have := hs.1; unfold fmsL; omega)
  have HTZ : Hid ((⟨#[]⟩ : ByteArray).size ≤ 0) := Lib.hid (Nat.le_refl _)
  have CA1 : Hid (∀ u, AfterT w1 u → Calls Tryd.prog 10 #[.int .i64 x] u (fun r u2 => r = .returned (.string s1) ∧ AfterT w1 u2)) := Lib.hid (fun u hu => by rw [hs1]; exact (implFmt_any x u HX.out.1 HX.out.2 (HTB.out u (HB.out.trans (Below.mono hu HB.out.size)))).mono fun r u2 ⟨e1, e2⟩ => ⟨e1, Below.trans hu (e2.below.mono hu.size)⟩)
  have CA2 : Hid (∀ u, AfterT w1 u → Calls Tryd.prog 10 #[.int .i64 p] u (fun r u2 => r = .returned (.string s2) ∧ AfterT w1 u2)) := Lib.hid (fun u hu => by rw [hs2]; exact (implFmt_any p u HP.out.1 HP.out.2 (HTB.out u (HB.out.trans (Below.mono hu HB.out.size)))).mono fun r u2 ⟨e1, e2⟩ => ⟨e1, Below.trans hu (e2.below.mono hu.size)⟩)
  have CA3 : Hid (∀ u, AfterT w1 u → Calls Tryd.prog 13 #[.slice A n c] u (fun r u2 => r = .returned (.string s3) ∧ AfterT w1 u2)) := Lib.hid (fun u hu => by rw [hs3]; exact (implFms_any A n c xs u (HS.out.below hu (Nat.le_refl _)) HN.out HF.out (HTB.out u (HB.out.trans (Below.mono hu HB.out.size)))).mono fun r u2 ⟨e1, e2⟩ => ⟨e1, Below.trans hu (e2.mono hu.size)⟩)
  have C0 : Hid (∀ u, AfterT w1 u → u.cell? ⟨g, 0, none⟩ = some (.int .i64 p)) := Lib.hid (fun u hu => (HK.out.below hu HK.out.lt).cell 0)
  have C1 : Hid (∀ u, AfterT w1 u → u.cell? ⟨g, 1, none⟩ = some (.slice A n c)) := Lib.hid (fun u hu => (HK.out.below hu HK.out.lt).cell 1)
  have C2 : Hid (∀ u, AfterT w1 u → u.cell? ⟨g, 2, none⟩ = some (.int .i64 x)) := Lib.hid (fun u hu => (HK.out.below hu HK.out.lt).cell 2)
  have HPC : Hid (strOfNums (paQ (p, xs, x)) = s1 ++ (⟨#[58, 113]⟩ : ByteArray) ++ s2 ++ (⟨#[58]⟩ : ByteArray) ++ s3) := Lib.hid (by show strOfNums (txtL x ++ [58, 113] ++ txtL p ++ [58] ++ fmsL xs) = _; rw [strOfNums_append, strOfNums_append, strOfNums_append, strOfNums_append, hs1, hs2, hs3]; rfl)
  clear hk hb hw1 hg hs hx hp hn hf htab hs1 hs2 hs3
  go_enter Tryd.func57, Tryd.ntmps57
  go_upto_region 1 with fail
  rw [← HW.out, ← HG.out]
  refine tq_class (AfterT w1) (by kernel_rfl) (by kernel_rfl) (Below.refl _ _).drew ?_
  go_big_quiet_want
  go_big_quiet_op
  first | go_big_quiet_on | (refine ⟨_, fun _ _ => rfl, ?_⟩; go_big_quiet_on)
  go_big_quiet_want
  refine quiet_loadcell0 3 (.tmp 3) rfl g 2 rfl _ C2.out rfl ?_
  go_big_quiet_on
  go_simp
  go_big_quiet_want
  go_big_quiet_op
  refine ⟨.string s1, fun u hu => CA1.out u hu, ?_⟩
  go_big_quiet_on
  go_big_quiet_want
  go_big_quiet_op
  refine ⟨.string (s1 ++ (⟨#[58, 113]⟩ : ByteArray)), fun u hu => by rw [if_neg (by have := HTZ.out; have := HZ3.out; have e113 : (⟨#[58, 113]⟩ : ByteArray).size = 2 := rfl; have := HZ1.out; have := HZ2.out; have e58 : (⟨#[58]⟩ : ByteArray).size = 1 := rfl; have e44 : (⟨#[44, 32]⟩ : ByteArray).size = 2 := rfl; (try simp only [ByteArray.size_append]); omega)]; exact ⟨rfl, rfl⟩, ?_⟩
  go_big_quiet_on
  go_big_quiet_want
  go_big_quiet_op
  first | go_big_quiet_on | (refine ⟨_, fun _ _ => rfl, ?_⟩; go_big_quiet_on)
  go_big_quiet_want
  refine quiet_loadcell0 3 (.tmp 7) rfl g 0 rfl _ C0.out rfl ?_
  go_big_quiet_on
  go_simp
  go_big_quiet_want
  go_big_quiet_op
  refine ⟨.string s2, fun u hu => CA2.out u hu, ?_⟩
  go_big_quiet_on
  go_big_quiet_want
  go_big_quiet_op
  refine ⟨.string (s1 ++ (⟨#[58, 113]⟩ : ByteArray) ++ s2), fun u hu => by rw [if_neg (by have := HTZ.out; have := HZ3.out; have e113 : (⟨#[58, 113]⟩ : ByteArray).size = 2 := rfl; have := HZ1.out; have := HZ2.out; have e58 : (⟨#[58]⟩ : ByteArray).size = 1 := rfl; have e44 : (⟨#[44, 32]⟩ : ByteArray).size = 2 := rfl; (try simp only [ByteArray.size_append]); omega)]; exact ⟨rfl, rfl⟩, ?_⟩
  go_big_quiet_on
  go_big_quiet_want
  go_big_quiet_op
  refine ⟨.string (s1 ++ (⟨#[58, 113]⟩ : ByteArray) ++ s2 ++ (⟨#[58]⟩ : ByteArray)), fun u hu => by rw [if_neg (by have := HTZ.out; have := HZ3.out; have e113 : (⟨#[58, 113]⟩ : ByteArray).size = 2 := rfl; have := HZ1.out; have := HZ2.out; have e58 : (⟨#[58]⟩ : ByteArray).size = 1 := rfl; have e44 : (⟨#[44, 32]⟩ : ByteArray).size = 2 := rfl; (try simp only [ByteArray.size_append]); omega)]; exact ⟨rfl, rfl⟩, ?_⟩
  go_big_quiet_on
  go_big_quiet_want
  go_big_quiet_op
  first | go_big_quiet_on | (refine ⟨_, fun _ _ => rfl, ?_⟩; go_big_quiet_on)
  go_big_quiet_want
  refine quiet_loadcell1 24 (.tmp 12) rfl g 1 rfl _ C1.out rfl ?_
  go_big_quiet_on
  go_simp
  go_big_quiet_want
  go_big_quiet_op
  refine ⟨.string s3, fun u hu => CA3.out u hu, ?_⟩
  go_big_quiet_on
  go_big_quiet_want
  go_big_quiet_op
  refine ⟨.string (s1 ++ (⟨#[58, 113]⟩ : ByteArray) ++ s2 ++ (⟨#[58]⟩ : ByteArray) ++ s3), fun u hu => by rw [if_neg (by have := HTZ.out; have := HZ3.out; have e113 : (⟨#[58, 113]⟩ : ByteArray).size = 2 := rfl; have := HZ1.out; have := HZ2.out; have e58 : (⟨#[58]⟩ : ByteArray).size = 1 := rfl; have e44 : (⟨#[44, 32]⟩ : ByteArray).size = 2 := rfl; (try simp only [ByteArray.size_append]); omega)]; exact ⟨rfl, rfl⟩, ?_⟩
  go_big_quiet_on
  go_big_quiet_want
  go_big_quiet_op
  first | go_big_quiet_on | (refine ⟨_, fun _ _ => rfl, ?_⟩; go_big_quiet_on)
  refine wpQuiet_nil ?_
  intro w6 hw6
  have HB6 : Hid (Below w.heap.size w w6) := Lib.hid (HB.out.trans (Below.mono hw6 HB.out.size))
  clear hw6
  go_wp2
  go_ret
  exact ⟨by rw [HPC.out]; rfl, HB6.out⟩
set_option maxRecDepth 100000 in
set_option maxHeartbeats 2000000 in
theorem qpSum_any (A : Option Addr) (n c : Nat) (ts : List Qm) (w : World) (hs : QS w A n ts) (hn : n ≤ 1048576) (hsh : ∀ k, k < n → (qm ts k).2.1.length ≤ 1048576) (hf : FitQ ts) (hpl : ∀ k, (paQ (qm ts k)).length ≤ 23068717) (htab : Lib.TabIs Tryd.prog w "internal/strconv.uint64pow10" .u64 Lib.pow10Tab) :
    Calls Tryd.prog 56 #[.slice A n c, .func (.func 57) #[] #[]] w fun e w' => e = .returned (.string (strOfNums (sumL (fun k => paQ (qm ts k)) n))) ∧ Below w.heap.size w w' := by
  have HL := Lib.hid hs.1
  have HTB := Lib.hid (fun (u : World) (hu : Below w.heap.size w u) => tab_below htab hu)
  have HSH := Lib.hid hsh
  have HF := Lib.hid hf
  clear htab hsh hf
  by_cases hn0 : n = 0
  · subst hn0
    clear hs
    go_enter Tryd.func56, Tryd.ntmps56
    go_wp2
    go_ret
    exact ⟨rfl, Below.refl _ _⟩
  · have hnI : ¬ (n : Int) = 0 := by omega
    have HN0 : Hid (0 < n) := Lib.hid (by omega)
    obtain ⟨B, hB⟩ : ∃ B, B = w.heap.size := ⟨_, rfl⟩
    have HBE := Lib.hid hB
    go_enter Tryd.func56, Tryd.ntmps56
    go_wp2_with (at_make; refine wpList_make_strs rfl (.tmp 12) (.tmp 12) rfl n rfl rfl (by omega) ?_; intro w1 ho1 hb1; have HO1 := Lib.hid ho1; have HB1 := Lib.hid hb1; clear ho1 hb1)
    try rw [show ((n : Int) == 0) = false by simp; omega]
    rw [← hB] at HO1 HB1 ⊢
    clear hB
    have HO2 : Hid (w1.ownsRow B 9 1 (.slice (some ⟨B, 0, none⟩) n n) n ((((List.range 0).map fun j => strOfNums (paQ (qm ts j))) ++ List.replicate (n - 0) (⟨#[]⟩ : ByteArray)).map Value.string)) := Lib.hid HO1.out
    clear HO1
    have HB2 : Hid (Below B w w1) := Lib.hid HB1.out
    clear HB1
    go_loopw [16] (fun iv wr => ∃ k : Nat, k ≤ n ∧ iv = .int .i64 k ∧ wr.ownsRow B 9 1 (.slice (some ⟨B, 0, none⟩) n n) n ((((List.range k).map fun j => strOfNums (paQ (qm ts j))) ++ List.replicate (n - k) (⟨#[]⟩ : ByteArray)).map Value.string) ∧ Below B w wr)
      (fun iv _ => n - (intOf iv).toNat)
    case atStart => exact ⟨0, Nat.zero_le _, rfl, HO2.out, HB2.out⟩
    case round =>
      obtain ⟨k, hk, rfl, ho, hb⟩ := hrel
      have HO := Lib.hid ho
      have HB := Lib.hid hb
      clear ho hb HO2 HB2 hn0 hnI
      by_cases hlt : k < n
      · have hlI : (k : Int) < (n : Int) := by omega
        obtain ⟨b, o, A', n', c', rfl, hb, hc0, hc1, hc2, hsi⟩ := (hs.below HB.out (by rw [HBE.out]; exact Nat.le_refl _)).at_ hlt
        have HSI := Lib.hid hsi
        have HX := Lib.hid (HF.out k (by rw [HL.out]; exact hlt))
        have HSF := Lib.hid (HSH.out k hlt)
        have HN' : Hid (n' ≤ 1048576) := Lib.hid (by have h1 := hsi.1; have h2 := HSF.out; omega)
        obtain ⟨x, hx⟩ : ∃ x, x = (qm ts k).2.2 := ⟨_, rfl⟩
        obtain ⟨xs, hxs⟩ : ∃ xs, xs = (qm ts k).2.1 := ⟨_, rfl⟩
        obtain ⟨p, hp⟩ : ∃ p, p = (qm ts k).1 := ⟨_, rfl⟩
        rw [← hx] at hc2
        rw [← hp] at hc0
        rw [← hxs, ← hx, ← hp] at HX
        rw [← hxs] at HSI HSF
        have HTM : Hid (qm ts k = (p, xs, x)) := Lib.hid (by rw [hp, hx, hxs])
        clear hsi hs hx hp hxs
        go_upto_region 7 with fail
        obtain ⟨w5, hw5⟩ : ∃ w5, w5 = wr.alloc (.cells #[.int .i64 p, .slice A' n' c', .int .i64 x] 89) := ⟨_, rfl⟩
        obtain ⟨g, hg⟩ : ∃ g, g = wr.heap.size := ⟨_, rfl⟩
        have hK5 : Blk w5 g 89 #[.int .i64 p, .slice A' n' c', .int .i64 x] := by rw [hw5, hg]; exact Blk.new _ _ _
        have hb5 : Below wr.heap.size wr w5 := by rw [hw5]; exact Below.alloc_self _ _
        rw [← hw5, ← hg]
        have HO5 := Lib.hid (ownsRow_below HO.out hb5 (Nat.le_refl _))
        have HBZ : Hid (B ≤ wr.heap.size) := Lib.hid (by rw [HBE.out]; exact HB.out.size)
        have HB5 : Hid (Below B w w5) := Lib.hid (HB.out.trans (hb5.mono HBZ.out))
        have HZ5 : Hid (B ≤ w5.heap.size) := Lib.hid (Nat.le_trans HBZ.out hb5.size)
        have HFM := Lib.hid (qpFmt_any A' n' c' xs p x w5 (HSI.out.below hb5 (Nat.le_refl _)) HN'.out HX.out.2.2 HX.out.1 HX.out.2.1 (HTB.out w5 (by rw [← HBE.out]; exact HB5.out)))
        have k0 : w5.cell? ⟨g, 0, none⟩ = some (.int .i64 p) := hK5.cell 0
        have k1 : w5.cell? ⟨g, 1, none⟩ = some (.slice A' n' c') := hK5.cell 1
        have k2 : w5.cell? ⟨g, 2, none⟩ = some (.int .i64 x) := hK5.cell 2
        clear hc0 hc1 hc2 hw5 hg hK5 hb5 HSI
        obtain ⟨s, hs⟩ : ∃ s, s = strOfNums (paQ (p, xs, x)) := ⟨_, rfl⟩
        rw [← hs] at HFM
        have HNX : Hid (((((List.range k).map fun j => strOfNums (paQ (qm ts j))) ++ List.replicate (n - k) (⟨#[]⟩ : ByteArray)).map Value.string).set k (.string s) = (((List.range (k + 1)).map fun j => strOfNums (paQ (qm ts j))) ++ List.replicate (n - (k + 1)) (⟨#[]⟩ : ByteArray)).map Value.string) := Lib.hid (by
          rw [show n - k = (n - (k + 1)) + 1 by omega, List.replicate_succ, List.range_succ, List.map_append, List.map_append, List.set_append_right _ _ (by simp)]
          simp [HTM.out, hs])
        clear hs
        go_wp2_with (go_at_call 57; (with_reducible refine HFM.out.mono ?_); rintro e w6 ⟨rfl, hb6⟩; have hO6 := ownsRow_below HO5.out hb6 (Nat.le_refl _); have hff := hO6.frozenAt k; have HO6 := Lib.hid hO6; have HB6 : Hid (Below B w w6) := Lib.hid (HB5.out.trans (hb6.mono HZ5.out)); have HST := Lib.hid (hO6.stored k (.string s)); obtain ⟨v0, hv0⟩ : ∃ v, w6.cell? ⟨B, k, none⟩ = some v := ⟨_, hO6.cellAt k (by omega) |>.trans (List.getElem?_eq_getElem (by have := hO6.1; omega))⟩; clear hO6 hb6)
        go_roundw
        case rel => exact ⟨k + 1, by omega, by go_num, by rw [← HNX.out]; exact HST.out.1, HB6.out.grown HST.out.2 (by rw [HBE.out]; exact HB6.out.size) (by rintro q ⟨⟩; exact Nat.le_refl _)⟩
        case measure => simp [intOf]; omega
      · obtain rfl : k = n := by omega
        have HC : Hid (∀ j, j < k → wr.cell? ⟨B, j, none⟩ = some (.string (strOfNums (paQ (qm ts j))))) := Lib.hid (fun j hj => by rw [HO.out.cellAt j (by omega)]; simp [hj])
        have HLEN : Hid ((jnP (fun k => paQ (qm ts k)) k).length ≤ 140737488355328) := Lib.hid (by have h1 := jnP_len hpl k; omega)
        have HJ := Lib.hid (join_any B k k (fun k => paQ (qm ts k)) wr HC.out (HO.out.lt B rfl).2 HN0.out (Nat.le_refl _) hn HLEN.out)
        have HS1 : Hid (sumL (fun k => paQ (qm ts k)) k = jnP (fun k => paQ (qm ts k)) k) := Lib.hid (by unfold sumL; rw [if_neg (by have := HN0.out; omega)])
        clear hs
        go_wp2_with (go_at_call 68; (with_reducible refine HJ.out.mono ?_); rintro e w6 ⟨rfl, hb6⟩; have HB6 := Lib.hid hb6; clear hb6)
        go_ret
        exact ⟨by rw [HS1.out]; rfl, by rw [← HBE.out]; exact HB.out.trans (HB6.out.mono (by rw [HBE.out]; exact HB.out.size))⟩
set_option maxHeartbeats 1000000 in
theorem implFqp_any (A : Option Addr) (n c : Nat) (ts : List Qm) (w : World) (hs : QS w A n ts) (hn : n ≤ 1048576) (hne : ∀ k, k < n → (qm ts k).2.1.length ≤ 1048576) (hf : FitQ ts) (htab : Lib.TabIs Tryd.prog w "internal/strconv.uint64pow10" .u64 Lib.pow10Tab) :
    Calls Tryd.prog 28 #[.slice A n c] w fun e w' => e = .returned (.string (strOfNums (sumL (fun k => paQ (qm ts k)) n))) ∧ Below w.heap.size w w' := by
  have HSU := Lib.hid (qpSum_any A n c ts w hs hn hne hf (paQ_len hf (by rw [hs.1]; exact hne)) htab)
  clear hs hf htab hne
  go_enter Tryd.func28, Tryd.ntmps28
  go_wp2_with (go_at_call 56; (with_reducible refine HSU.out.mono ?_); rintro e w2 ⟨rfl, hb2⟩; have HB2 := Lib.hid hb2; clear hb2)
  go_ret
  exact ⟨rfl, HB2.out⟩
end Go.Proofs.YtdiiaallklkomaaDoor
