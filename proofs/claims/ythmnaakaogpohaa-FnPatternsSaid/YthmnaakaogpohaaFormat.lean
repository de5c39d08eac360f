/-
  Permutations as texts, on both sides. Conditions: lengths below 2^40.
-/
import Derived.Test.YthmnaakaogpohaaPermImpl
import Derived.Test.YthmnaakaogpohaaOwn
import Derived.Laws.BytesArg
namespace Go.Proofs.Ythmnaakaogpohaa
open Go.RowKit

/-- The bytes of a permutation's text. -/
def fmtN (xs : List Int) : List Int := xs.map fun x => 49 + x
theorem fmtN_len (xs : List Int) : (fmtN xs).length = xs.length := by simp [fmtN]
theorem fmtN_nth {xs : List Int} {k : Nat} (h : k < xs.length) : nth (fmtN xs) k = 49 + nth xs k := by
  rw [nth_get (by rw [fmtN_len]; exact h), nth_get h]; simp [fmtN]
def fmtB (xs : List Int) : ByteArray := if isPermB xs = true then strOfNums (fmtN xs) else ByteArray.empty
theorem fmtB_no {xs : List Int} (h : isPermB xs = false) : fmtB xs = ByteArray.empty := by unfold fmtB; rw [if_neg (by rw [h]; decide)]
theorem fmtB_yes {xs : List Int} (h : isPermB xs = true) : fmtB xs = strOfNums (fmtN xs) := by unfold fmtB; rw [if_pos h]
theorem Try.infoByte : (Try.prog.info? 5).map (fun i => (i.zero, i.size, i.bytes)) = some (some (.int .u8 0), 1, 1) := by kernel_rfl
theorem ret_str {a b : ByteArray} (h : a = b) : Ending.returned (.string a) = .returned (.string b) := by rw [h]

/-- 'out = append(out, b)' on a slice of bytes of the call's own. -/
theorem wpList_append1b {ops : Array Oper} {rest : List Oper} {o : Oper} {a : Act} {w : World} {Q : Exit → Act → World → Prop} (hgd : o.guard = none) (s x : Operand)
    (ho : o.op = .call { callee := .builtin .append, args := #[s, x], argTypes := #[22, 22] })
    (lo : Nat) (A : Option Addr) (n c : Nat) (xs : List Int) (v : Int) (hs : a.eval s = .slice A n c) (hx : a.eval x = .slice (some ⟨w.heap.size, 0, none⟩) 1 1)
    (hown : w.ownsRow lo 5 1 (.slice A n c) n (xs.map (Value.int .u8))) (hlo : lo ≤ w.heap.size) (hn : n ≤ 1099511627776)
    (hK : ∀ g c' w', w'.ownsRow lo 5 1 (.slice (some ⟨g, 0, none⟩) (n + 1) c') (n + 1) ((xs ++ [v]).map (Value.int .u8)) → Below lo w w' → wpList Try.prog ops Q rest (a.put o.dst (.slice (some ⟨g, 0, none⟩) (n + 1) c')) w') :
    wpList Try.prog ops Q (o :: rest) a (w.alloc (.cells #[.int .u8 v] 5)) := by
  obtain ⟨i0, hi, hz0, hz1, hz2⟩ := info_parts Try.infoByte
  refine wpList_append_own _ hgd s x 22 ho lo 5 i0 (.int .u8 0) 1 1 Try.underlying22 hi hz0 hz1 hz2 rfl (by decide) _ _ _ hs (hown.alloc _) ⟨w.heap.size, 0, none⟩ 1 1 [.int .u8 v] hx rfl ?_ ?_ (by unfold maxLen; omega) (by omega) (by simp; omega) ?_
  · intro j u hj
    match j, hj with
    | 0, hj =>
      simp at hj
      subst hj
      rw [add_pt]
      exact (Blk.new w 5 #[.int .u8 v]).cell 0
  · intro u hu
    simp at hu
    subst hu
    rfl
  · intro v' w1 ho1 hg1 _
    have e1 : List.map (Value.int .u8) xs ++ [Value.int .u8 v] = (xs ++ [v]).map (Value.int .u8) := by simp
    rw [e1] at ho1
    obtain ⟨g, cap, rfl, _, _⟩ := ho1.form (by omega)
    exact hK _ _ w1 ho1 (grow_below ((World.grownBy_alloc w _ _).trans hg1) hlo (fun k hk => (hown.lt k hk).1))

/-- The first k bytes, then zeros. -/
def fillB (xs : List Int) (k : Nat) : List Int := xs.take k ++ List.replicate (xs.length - k) 0
theorem fillB_zero (xs : List Int) : fillB xs 0 = List.replicate xs.length 0 := by simp [fillB]
theorem fillB_all (xs : List Int) : fillB xs xs.length = xs := by simp [fillB]
theorem fillB_len {xs : List Int} {k : Nat} (h : k ≤ xs.length) : (fillB xs k).length = xs.length := by simp [fillB]; omega
theorem fillB_succ {xs : List Int} {k : Nat} (h : k < xs.length) : (fillB xs k).set k (nth xs k) = fillB xs (k + 1) := by
  unfold fillB
  have hl : (xs.take k).length = k := by simp; omega
  rw [List.set_append_right _ _ (by omega), hl, Nat.sub_self, show xs.length - k = (xs.length - (k + 1)) + 1 by omega, List.replicate_succ, List.set_cons_zero, take_nth h, List.append_assoc]
  rfl

set_option maxHeartbeats 800000 in
theorem implFormat_any (A : Option Addr) (n c : Nat) (xs : List Int) (w : World) (hs : SI w A n xs) (hn : n ≤ 1099511627776) :
    Calls Try.prog 14 #[.slice A n c] w fun e w' => e = .returned (.string (fmtB xs)) ∧ Below w.heap.size w w' := by
  have hl := hs.1
  have hI := implIsPerm_any A n c xs w hs hn
  cases hu : isPermB xs with
  | false =>
    rw [hu] at hI
    have HI := Lib.hid hI
    have HE := Lib.hid (fmtB_no hu)
    clear hu hI
    go_enter Try.func14, Try.ntmps14
    go_wp2_with (go_at_call 58; refine HI.out.mono ?_; rintro e w1 ⟨rfl, hb1⟩)
    go_ret
    exact ⟨ret_str HE.out.symm, hb1⟩
  | true =>
    have hp := isPermB_P hu
    rw [hu] at hI
    have HI := Lib.hid hI
    have HP := Lib.hid hp
    have HE := Lib.hid (fmtB_yes hu)
    have HL := Lib.hid hl
    have HS := Lib.hid hs
    have h7 : n ≤ 7 := by have := hp.2.1; omega
    have h1 : 1 ≤ n := by have := hp.1; omega
    clear hu hp hl hI hs
    obtain ⟨i0, hi, hz0, hz1, hz2⟩ := info_parts Try.infoByte
    go_enter Try.func14, Try.ntmps14
    go_wp2_with (first
      | (go_at_call 58; refine HI.out.mono ?_; rintro e w1 ⟨rfl, hb1⟩; have HB1 := Lib.hid hb1; clear hb1)
      | (at_make; refine wpList_make_full _ rfl (.tmp 10) (.tmp 10) 22 rfl w.heap.size 5 i0 (.int .u8 0) 1 Try.underlying22 hi hz0 hz1 .i64 .i64 (n : Int) (n : Int) n rfl rfl rfl rfl (by rw [hz2]; omega) (by unfold maxLen; omega) HB1.out.size ?_; intro w2 hown hgrow))
    obtain ⟨B, hB⟩ : ∃ B, B = w1.heap.size := ⟨_, rfl⟩
    have hBw : w.heap.size ≤ B := by rw [hB]; exact HB1.out.size
    rw [← hB] at hown ⊢
    have hb2 : Below w.heap.size w w2 := HB1.out.grown hgrow HB1.out.size (by intro k hk; cases hk)
    clear hgrow hB hi hz0 hz1 hz2
    go_loopw [14] (fun i wr => ∃ k : Nat, k ≤ n ∧ i = .int .i64 k ∧ wr.ownsRow w.heap.size 5 1 (.slice (some ⟨B, 0, none⟩) n n) n ((fillB (fmtN xs) k).map (Value.int .u8)) ∧ Below w.heap.size w wr)
      (fun i _ => n - (intOf i).toNat)
    case atStart =>
      refine ⟨0, Nat.zero_le _, rfl, ?_, hb2⟩
      rw [fillB_zero, fmtN_len, HL.out]
      have e : (madeCells (Value.int .u8 0).cells (n * 1)).toList = (List.replicate n (0 : Int)).map (Value.int .u8) := by
        rw [show (Value.int .u8 0).cells = #[Value.int .u8 0] from rfl, Nat.mul_one, toList_madeCells_one]; simp
      rw [e] at hown
      exact hown
    case round =>
      obtain ⟨k, hk, rfl, hown2, hbel⟩ := hrel
      clear hown hb2 w2
      have HB := Lib.hid hbel
      by_cases hlt : k < n
      · have hlI : (k : Int) < (n : Int) := by omega
        obtain ⟨b, o, rfl, hb, hc⟩ := (HS.out.below hbel (Nat.le_refl _)).at_ (by omega)
        have hc1 := hc k hlt
        obtain ⟨hx0, hx1⟩ := HP.out.range k (by rw [HL.out]; exact hlt)
        rw [HL.out] at hx1
        have hf := hown2.frozenAt k
        have hc2 : wr.cell? ⟨B, k, none⟩ = some (.int .u8 (nth (fillB (fmtN xs) k) k)) := by
          rw [hown2.cellAt k (by omega), List.getElem?_map, nth_get? (by rw [fillB_len (by rw [fmtN_len, HL.out]; exact hk), fmtN_len, HL.out]; exact hlt)]; rfl
        obtain ⟨y, hy⟩ : ∃ y, y = nth (fillB (fmtN xs) k) k := ⟨_, rfl⟩
        rw [← hy] at hc2
        have hst := (hown2.stored k (.int .u8 (nth (fmtN xs) k))).1
        rw [← List.map_set, fillB_succ (by rw [fmtN_len, HL.out]; exact hlt), fmtN_nth (by rw [HL.out]; exact hlt)] at hst
        obtain ⟨x, hx⟩ : ∃ x, x = nth xs k := ⟨_, rfl⟩
        rw [← hx] at hc1 hx0 hx1 hst
        have HST := Lib.hid hst
        clear hc hown2 hbel hx hy hst
        go_wp2
        go_roundw
        case rel => exact ⟨k + 1, by omega, by go_num, by simpa using HST.out, HB.out.setCell hBw _⟩
        case measure => simp [intOf]; omega
      · have hkn : k = n := by omega
        subst hkn
        have hall : fillB (fmtN xs) k = fmtN xs := by have := fillB_all (fmtN xs); rwa [fmtN_len, HL.out] at this
        rw [hall] at hown2
        have hcv := run_convert_bytes_arg (P := Try.prog) wr 22 5 Try.underlying22 Try.underlying5 B 0 k k (fmtN xs) (by rw [fmtN_len, HL.out]) (fun i hi => by
          have h := hown2.cellAt i (by omega)
          rw [Nat.zero_add, h, List.getElem?_map, nth_get? (by rw [fmtN_len, HL.out]; exact hi)]; rfl) 9 Try.underlying9
        clear hown2 hbel hall
        go_wp2
        go_ret
        exact ⟨ret_str HE.out.symm, HB.out⟩
end Go.Proofs.Ythmnaakaogpohaa
