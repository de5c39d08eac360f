/-
  The order of permutations: the program's side. A test that draws its order and holds two calls that make memory. Conditions: lengths below 2^40.
-/
import Derived.Test.YtjlpplghdhjdfaaSpecH
import Derived.Test.YtjlpplghdhjdfaaImplF
namespace Go.Proofs.Ytjlpplghdhjdfaa
open Go.RowKit

section
variable {P : Program} {ops : Array Oper} {C : World → Prop} {Q : Act → Prop} {a : Act} {o : Oper} {rest : List Oper}
theorem wp_region_class {id : Nat} {Q : Exit → Act → World → Prop} {w : World} {l : List Oper} (C : World → Prop) (hm : P.follows .mixedOrders = true) (hB : Region.lexB .any l.toArray = true) (hC : C w.drew)
    (h : wpQuiet P l.toArray C (fun a' => ∀ w', C w' → Q .normal a' w') l a) : (Code.region id l.toArray true).wp P Q a w :=
  wp_region_quiet hm hB hC (by simpa using h)
theorem q_move (hg : o.guard = none) (x : Operand) (ho : o.op = .move x) (h : wpQuiet P ops C Q rest (a.put o.dst (a.eval x))) : wpQuiet P ops C Q (o :: rest) a := by
  refine wpQuiet_step fun K hK => ?_
  simp only [Region.wanted, hg, if_true]
  refine ⟨a.eval x, fun w _ => ?_, hK _ h⟩
  unfold Oper.quietAt execOp
  simp only [ho]
  exact ⟨rfl, rfl⟩
theorem q_load (hg : o.guard = none) (ty : TypeId) (x : Operand) (ho : o.op = .load ty x) (g : Nat) (hx : a.eval x = .pointer (some ⟨g, 0, none⟩)) (t : TypeId) (cs : Array Value) (n : Nat) (e : TypeId)
    (hb : ∀ w, C w → Blk w g t cs) (hu : P.underlying ty = some (.array n e)) (hi : (P.info? ty).map (·.size) = some cs.size) (h : wpQuiet P ops C Q rest (a.put o.dst (.agg cs))) : wpQuiet P ops C Q (o :: rest) a := by
  refine wpQuiet_step fun K hK => ?_
  simp only [Region.wanted, hg, if_true]
  refine ⟨.agg cs, fun w hw => ?_, hK _ h⟩
  unfold Oper.quietAt execOp
  simp only [ho, hx, Instr.loadAt, Instr.sureAddr, Sem.run_bind, Sem.run_pure, Result.andThen_ok, run_loadVar_row w g t ty cs (0, 0) _ (hb w hw) hu rfl hi]
  exact ⟨rfl, rfl⟩
end
/-- Worlds in which nothing has turned that was there. -/
def After (wr w' : World) : Prop := Below wr.heap.size wr w'
theorem After.blk {wr w' : World} {g t : Nat} {cs : Array Value} (h : Blk wr g t cs) (ha : After wr w') : Blk w' g t cs := h.below ha h.lt

set_option maxHeartbeats 4000000 in
theorem implBelow_in (A A' : Option Addr) (n c c' : Nat) (us vs : List Int) (w : World) (hs : SI w A n us) (hs' : SI w A' n vs) (hn : n ≤ 1099511627776) (hu : isPermB us = true) (hv : isPermB vs = true) :
    Calls Try.prog 26 #[.slice A n c, .slice A' n c'] w fun e w' => e = .returned (.bool (belowB us vs n)) ∧ Below w.heap.size w w' := by
  have HU := Lib.hid hu
  have HV := Lib.hid hv
  have hl := hs.1
  have hl' := hs'.1
  have HL := Lib.hid (And.intro hl hl')
  have h7 : n ≤ 7 := by have := (isPermB_P hu).2.1; omega
  clear hu hv hl hl'
  go_enter Try.func26, Try.ntmps26
  go_wp2_with fail
  refine (arrayOf_x c HU.out hs hn).mono ?_
  rintro e w1 ⟨l, rfl, hlf, hb1⟩
  have HF := Lib.hid (hlf rfl)
  have hbx : Below w.heap.size w (w1.alloc (.cells (arrC l) 53)) := hb1.alloc hb1.size _
  have hK := Blk.new w1 53 (arrC l)
  clear hlf
  go_wp2_with fail
  obtain ⟨g1, hg1⟩ : ∃ g1, g1 = w1.heap.size := ⟨_, rfl⟩
  rw [← hg1] at hK ⊢
  clear hg1
  generalize w1.alloc (.cells (arrC l) 53) = w2 at *
  refine (arrayOf_x c' HV.out (hs'.below hbx (Nat.le_refl _)) hn).mono ?_
  rintro e w3 ⟨l', rfl, hlf', hb3⟩
  have HF' := Lib.hid (hlf' rfl)
  have hK3 := (hK.below hb3 hK.lt).alloc (.cells (arrC l') 53)
  have hK' := Blk.new w3 53 (arrC l')
  have hby : Below w.heap.size w (w3.alloc (.cells (arrC l') 53)) := (hbx.trans (hb3.mono hbx.size)).alloc ((hbx.trans (hb3.mono hbx.size)).size) _
  clear hlf' hK
  go_wp2
  obtain ⟨g2, hg2⟩ : ∃ g2, g2 = w3.heap.size := ⟨_, rfl⟩
  rw [← hg2] at hK' ⊢
  clear hg2
  generalize w3.alloc (.cells (arrC l') 53) = w4 at *
  clear hbx hb3 hb1 hs hs'
  have e1 : ∀ (x : Int) (r : Nat), r ≤ n → rankN l x r = rankN us x r := fun x r hr => rankN_congr x r (fun t ht => by rw [HF.out]; exact fillA_lt (by omega) (by omega))
  have e2 : ∀ (x : Int) (r : Nat), r ≤ n → rankN l' x r = rankN vs x r := fun x r hr => rankN_congr x r (fun t ht => by rw [HF'.out]; exact fillA_lt (by omega) (by omega))
  have E1 := Lib.hid e1
  have E2 := Lib.hid e2
  have HL7 : Hid (l.length = 7 ∧ l'.length = 7) := Lib.hid ⟨by rw [HF.out, fillA_len], by rw [HF'.out, fillA_len]⟩
  clear e1 e2
  go_loopw [37] (fun i wr => ∃ r : Nat, r ≤ n + 1 ∧ i = .int .i64 r ∧ (∀ r', r' < r → ∀ x : Nat, x ≤ n → rankN vs (x : Int) r' ≤ rankN us (x : Int) r') ∧ Blk wr g1 53 (arrC l) ∧ Blk wr g2 53 (arrC l') ∧ Below w.heap.size w wr)
    (fun i _ => n + 1 - (intOf i).toNat)
  case atStart => exact ⟨0, Nat.zero_le _, rfl, fun r' h => absurd h (by omega), hK3, hK', hby⟩
  case round =>
    obtain ⟨r, hr, rfl, hall, hb1, hb2, hbel⟩ := hrel
    have HA := Lib.hid hall
    have HB1 := Lib.hid hb1
    have HB2 := Lib.hid hb2
    have HB := Lib.hid hbel
    clear hall hb1 hb2 hbel hK3 hK' hby
    by_cases hlt : r ≤ n
    · have hrI : (r : Int) < (n : Int) + 1 := by omega
      go_wp2
      go_loopw [43] (fun i wr => ∃ x : Nat, x ≤ n + 1 ∧ i = .int .i64 x ∧ (∀ x' : Nat, x' < x → rankN vs (x' : Int) r ≤ rankN us (x' : Int) r) ∧ Blk wr g1 53 (arrC l) ∧ Blk wr g2 53 (arrC l') ∧ Below w.heap.size w wr)
        (fun i _ => n + 1 - (intOf i).toNat)
      case atStart => exact ⟨0, Nat.zero_le _, rfl, fun x' h => absurd h (by omega), HB1.out, HB2.out, HB.out⟩
      case round =>
        obtain ⟨x, hx, rfl, hall2, hc1, hc2, hbel2⟩ := hrel
        have HA2 := Lib.hid hall2
        have HC1 := Lib.hid hc1
        have HC2 := Lib.hid hc2
        have HBB := Lib.hid hbel2
        clear hall2 hc1 hc2 hbel2
        by_cases hxl : x ≤ n
        · have hxI : (x : Int) < (n : Int) + 1 := by omega
          obtain ⟨p, hp⟩ : ∃ p, p = rankN us (x : Int) r := ⟨_, rfl⟩
          obtain ⟨q, hq⟩ : ∃ q, q = rankN vs (x : Int) r := ⟨_, rfl⟩
          have call1 : ∀ w', After wr w' → Calls Try.prog 58 #[arr l, .int .i64 r, .int .i64 x] w' (fun e w'' => e = .returned (.int .i64 p) ∧ After wr w'') := fun w' hw' =>
            (rank_any l r x w' (by omega) HL7.out.1).mono fun e w'' ⟨he, hb⟩ => ⟨by rw [he, E1.out _ _ hlt, ← hp], hw'.trans (hb.mono hw'.size)⟩
          have call2 : ∀ w', After wr w' → Calls Try.prog 58 #[arr l', .int .i64 r, .int .i64 x] w' (fun e w'' => e = .returned (.int .i64 q) ∧ After wr w'') := fun w' hw' =>
            (rank_any l' r x w' (by omega) HL7.out.2).mono fun e w'' ⟨he, hb⟩ => ⟨by rw [he, E2.out _ _ hlt, ← hq], hw'.trans (hb.mono hw'.size)⟩
          have HP := Lib.hid hp
          have HQ := Lib.hid hq
          have CA1 := Lib.hid call1
          have CA2 := Lib.hid call2
          clear hp hq call1 call2
          go_wp2_with fail
          refine wp_region_class (After wr) (by kernel_rfl) (by kernel_rfl) (Below.refl _ _).drew ?_
          refine q_load rfl 53 (.tmp 5) rfl g1 rfl 53 (arrC l) 7 3 (fun w' h => After.blk HC1.out h) Try.undArr Try.infoArr ?_
          refine q_move rfl _ rfl ?_
          refine q_move rfl _ rfl ?_
          refine wpQuiet_step (fun K hK => ?_)
          go_simp
          refine ⟨.int .i64 p, fun w' hw' => ?_, hK _ ?_⟩
          · exact CA1.out w' hw'
          · clear hK K
            refine q_load rfl 53 (.tmp 7) rfl g2 rfl 53 (arrC l') 7 3 (fun w' h => After.blk HC2.out h) Try.undArr Try.infoArr ?_
            refine q_move rfl _ rfl ?_
            refine q_move rfl _ rfl ?_
            refine wpQuiet_step (fun K hK => ?_)
            go_simp
            refine ⟨.int .i64 q, fun w' hw' => ?_, hK _ ?_⟩
            · exact CA2.out w' hw'
            · clear hK K
              refine wpQuiet_step (fun K hK => ?_)
              go_simp
              refine ⟨.bool (decide (p < q)), fun w' _ => rfl, hK _ ?_⟩
              clear hK K
              refine wpQuiet_nil ?_
              intro w5 hw5
              have HC15 := Lib.hid (After.blk HC1.out hw5)
              have HC25 := Lib.hid (After.blk HC2.out hw5)
              have HB5 := Lib.hid (HBB.out.trans (Below.mono hw5 HBB.out.size))
              clear hw5
              by_cases hpq : p < q
              · have hd : decide (p < q) = true := by simpa using hpq
                rw [hd]
                have HPQ := Lib.hid hpq
                clear hd hpq
                go_wp2
                go_ret
                refine ⟨ret_bool (belowB_false (fun h => ?_)).symm, HB5.out⟩
                have := h r hlt x hxl
                have e1 := HP.out
                have e2 := HQ.out
                have e3 := HPQ.out
                omega
              · have hd : decide (p < q) = false := by simpa using hpq
                rw [hd]
                have HPQ := Lib.hid hpq
                clear hd hpq
                go_wp2
                go_roundw
                case rel => exact ⟨x + 1, by omega, by go_num, fun x' h => by
                  rcases Nat.lt_or_ge x' x with h1 | h1
                  · exact HA2.out x' h1
                  · obtain rfl : x' = x := by omega
                    have e1 := HP.out
                    have e2 := HQ.out
                    have e3 := HPQ.out
                    omega, HC15.out, HC25.out, HB5.out⟩
                case measure => simp [intOf]; omega
        · have hxn : x = n + 1 := by omega
          subst hxn
          go_wp2
          go_roundw
          case rel => exact ⟨r + 1, by omega, by go_num, fun r' h x' hx' => by
            rcases Nat.lt_or_ge r' r with h1 | h1
            · exact HA.out r' h1 x' hx'
            · obtain rfl : r' = r := by omega
              exact HA2.out x' (by omega), HC1.out, HC2.out, HBB.out⟩
          case measure => simp [intOf]; omega
    · have hrn : r = n + 1 := by omega
      subst hrn
      go_wp2
      go_ret
      exact ⟨ret_bool (belowB_true (fun r' h x hx => HA.out r' (by omega) x hx)).symm, HB.out⟩

set_option maxHeartbeats 2000000 in
theorem implBelow_any (A A' : Option Addr) (n c n' c' : Nat) (us vs : List Int) (w : World) (hs : SI w A n us) (hs' : SI w A' n' vs) (hn : n ≤ 1099511627776) (hn' : n' ≤ 1099511627776) :
    Calls Try.prog 26 #[.slice A n c, .slice A' n' c'] w fun e w' => e = .returned (.bool (belowPerm us vs)) ∧ Below w.heap.size w w' := by
  have hl := hs.1
  have hl' := hs'.1
  cases hu : isPermB us with
  | true =>
    cases hv : isPermB vs with
    | true =>
      by_cases hnn : n = n'
      · subst hnn
        rw [belowPerm_4 hu hv (by omega), hl]
        exact implBelow_in A A' n c c' us vs w hs hs' hn hu hv
      · have hne' : ¬ (n : Int) = (n' : Int) := by omega
        have HE := Lib.hid (belowPerm_3 (us := us) (vs := vs) (by omega))
        have HU := Lib.hid hu
        have HV := Lib.hid hv
        clear hu hv hl hl'
        go_enter Try.func26, Try.ntmps26
        go_wp2_with fail
        refine (arrayOf_x c HU.out hs hn).mono ?_
        rintro e w1 ⟨l, rfl, -, hb1⟩
        have hbx : Below w.heap.size w (w1.alloc (.cells (arrC l) 53)) := hb1.alloc hb1.size _
        go_wp2_with fail
        generalize w1.alloc (.cells (arrC l) 53) = w2 at *
        refine (arrayOf_x c' HV.out (hs'.below hbx (Nat.le_refl _)) hn').mono ?_
        rintro e w3 ⟨l', rfl, -, hb3⟩
        go_wp2
        go_ret
        exact ⟨ret_bool HE.out.symm, ((hbx.trans (hb3.mono hbx.size)).alloc ((hbx.trans (hb3.mono hbx.size)).size) _)⟩
    | false =>
      have HE := Lib.hid (belowPerm_2 (us := us) hv)
      have HU := Lib.hid hu
      have HV := Lib.hid hv
      clear hu hv hl hl'
      go_enter Try.func26, Try.ntmps26
      go_wp2_with fail
      refine (arrayOf_x c HU.out hs hn).mono ?_
      rintro e w1 ⟨l, rfl, -, hb1⟩
      have hbx : Below w.heap.size w (w1.alloc (.cells (arrC l) 53)) := hb1.alloc hb1.size _
      go_wp2_with fail
      generalize w1.alloc (.cells (arrC l) 53) = w2 at *
      refine (arrayOf_x c' HV.out (hs'.below hbx (Nat.le_refl _)) hn').mono ?_
      rintro e w3 ⟨l', rfl, -, hb3⟩
      go_wp2
      go_ret
      exact ⟨ret_bool HE.out.symm, ((hbx.trans (hb3.mono hbx.size)).alloc ((hbx.trans (hb3.mono hbx.size)).size) _)⟩
  | false =>
    obtain ⟨b, hv⟩ : ∃ b, isPermB vs = b := ⟨_, rfl⟩
    have HE := Lib.hid (belowPerm_1 (vs := vs) hu)
    have HU := Lib.hid hu
    have HV := Lib.hid hv
    clear hu hv hl hl'
    go_enter Try.func26, Try.ntmps26
    go_wp2_with fail
    refine (arrayOf_x c HU.out hs hn).mono ?_
    rintro e w1 ⟨l, rfl, -, hb1⟩
    have hbx : Below w.heap.size w (w1.alloc (.cells (arrC l) 53)) := hb1.alloc hb1.size _
    go_wp2_with fail
    generalize w1.alloc (.cells (arrC l) 53) = w2 at *
    refine (arrayOf_x c' HV.out (hs'.below hbx (Nat.le_refl _)) hn').mono ?_
    rintro e w3 ⟨l', rfl, -, hb3⟩
    go_wp2
    go_ret
    exact ⟨ret_bool HE.out.symm, ((hbx.trans (hb3.mono hbx.size)).alloc ((hbx.trans (hb3.mono hbx.size)).size) _)⟩
end Go.Proofs.Ytjlpplghdhjdfaa
