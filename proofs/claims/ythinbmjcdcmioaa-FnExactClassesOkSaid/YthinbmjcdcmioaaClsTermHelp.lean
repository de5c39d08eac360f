/-
  TermHelp, for values of type Class instead of terms (made by wip/gen/gen_cls.py). Conditions: lengths below 2^40.
-/
import Derived.Test.YthinbmjcdcmioaaTermHelp
import Derived.Test.YthinbmjcdcmioaaClsTermMem
namespace Go.Proofs.Ythinbmjcdcmioaa.Cls
open Go.RowKit
theorem Try.infoTermC : (Try.prog.info? 87).map (·.size) = some 2 := by kernel_rfl
theorem Try.infoTermLC : (Try.prog.info? 86).map (·.size) = some 2 := by kernel_rfl

set_option maxHeartbeats 400000 in
theorem toTerm_anyC (A : Option Addr) (n c : Nat) (xs : List Int) (x : Int) (w : World) (hs : SI w A n xs) (hn : n ≤ 1099511627776) :
    Calls Try.prog 88 #[.agg #[.slice A n c, .int .i64 x]] w fun e w' => ∃ A' n' c', e = .returned (.agg #[.slice A' n' c', .int .i64 x]) ∧ Own w' w.heap.size w'.heap.size A' n' c' xs ∧ Below w.heap.size w w' := by
  go_enter Try.func88, Try.ntmps88
  go_wp2_with fail
  obtain ⟨g1, hg1⟩ : ∃ g1, g1 = w.heap.size := ⟨_, rfl⟩
  have hK1 : Blk (((w.alloc (.cells #[.slice A n c, .int .i64 x] 86)).alloc (.cells #[.slice none 0 0, .int .i64 0] 87)).alloc (.cells #[.slice none 0 0, .int .i64 0] 87)) g1 86 #[.slice A n c, .int .i64 x] := by rw [hg1]; exact ((Blk.new w _ _).alloc _).alloc _
  have hK2 : Blk (((w.alloc (.cells #[.slice A n c, .int .i64 x] 86)).alloc (.cells #[.slice none 0 0, .int .i64 0] 87)).alloc (.cells #[.slice none 0 0, .int .i64 0] 87)) (w.heap.size + 1) 87 #[.slice none 0 0, .int .i64 0] := by
    have := (Blk.new (w.alloc (.cells #[.slice A n c, .int .i64 x] 86)) 87 #[.slice none 0 0, .int .i64 0]).alloc (.cells #[.slice none 0 0, .int .i64 0] 87)
    simpa using this
  have hK3 : Blk (((w.alloc (.cells #[.slice A n c, .int .i64 x] 86)).alloc (.cells #[.slice none 0 0, .int .i64 0] 87)).alloc (.cells #[.slice none 0 0, .int .i64 0] 87)) (w.heap.size + 1 + 1) 87 #[.slice none 0 0, .int .i64 0] := by
    have := (Blk.new ((w.alloc (.cells #[.slice A n c, .int .i64 x] 86)).alloc (.cells #[.slice none 0 0, .int .i64 0] 87)) 87 #[.slice none 0 0, .int .i64 0])
    simpa using this
  have hb3 : Below w.heap.size w (((w.alloc (.cells #[.slice A n c, .int .i64 x] 86)).alloc (.cells #[.slice none 0 0, .int .i64 0] 87)).alloc (.cells #[.slice none 0 0, .int .i64 0] 87)) := by go_grown
  have hs3 := hs.below hb3 (Nat.le_refl _)
  generalize (((w.alloc (.cells #[.slice A n c, .int .i64 x] 86)).alloc (.cells #[.slice none 0 0, .int .i64 0] 87)).alloc (.cells #[.slice none 0 0, .int .i64 0] 87)) = w3 at *
  rw [← hg1] at hK2 hK3 ⊢
  refine (toIntS_fr _ _ _ xs _ hs3 hn).mono ?_
  rintro e w4 ⟨A4, n4, c4, rfl, ho, hb4⟩
  have hL3 := hK3.lt
  have hb : Below w.heap.size w w4 := hb3.trans (hb4.mono hb3.size)
  have HO := Lib.hid ho
  have HB := Lib.hid hb
  have K1 := hK1.below hb4 hK1.lt
  have K2 := hK2.below hb4 hK2.lt
  have K3 := hK3.below hb4 hK3.lt
  have hc1 : w4.cell? ⟨g1, 1, none⟩ = some (.int .i64 x) := K1.cell 1
  have hc3 : w4.cell? ⟨g1 + 1 + 1, 0, none⟩ = some (.slice none 0 0) := K3.cell 0
  have hf3 := K3.frozen 0
  have hc4 : w4.cell? ⟨g1 + 1 + 1, 1, none⟩ = some (.int .i64 0) := K3.cell 1
  have hf4 := K3.frozen 1
  have hc5 : w4.cell? ⟨g1 + 1, 0, none⟩ = some (.slice none 0 0) := K2.cell 0
  have hf5 := K2.frozen 0
  have hc6 : w4.cell? ⟨g1 + 1, 1, none⟩ = some (.int .i64 0) := K2.cell 1
  have hf6 := K2.frozen 1
  have H2 := Lib.hid K2
  have HG := Lib.hid hg1
  have HL := Lib.hid hL3
  clear ho hb K1 K2 K3 hK1 hK2 hK3 hb3 hs3 hb4 hg1 hL3 hs
  go_wp2
  have HG := HG.out
  have HL := HL.out
  have R := ((((H2.out.far (p := ⟨g1 + 1 + 1, 0, none⟩) (by show g1 + 1 ≠ g1 + 1 + 1; omega) (.slice A4 n4 c4)).far (p := ⟨g1 + 1 + 1, 1, none⟩) (by show g1 + 1 ≠ g1 + 1 + 1; omega) (.int .i64 x)).set_ 0 (.slice A4 n4 c4)).set_ 1 (.int .i64 x))
  have gs : w4.grownBy (w4.setCell ⟨g1 + 1 + 1, 0, none⟩ (.slice A4 n4 c4)) (some (g1 + 1 + 1)) := grown_set _ _ _
  refine bodyPost_ret (results_row Try.results88 _ _ (g1 + 1) 87 #[.slice A4 n4 c4, .int .i64 x] _ rfl R Try.underlying87 rfl (by kernel_rfl)) rfl ?_
  refine ⟨A4, n4, c4, rfl, ?_, ?_⟩
  · refine ((((HO.out.kept (grown_set _ _ _) ?_).kept (grown_set _ _ _) ?_).kept (grown_set _ _ _) ?_).kept (grown_set _ _ _) ?_).wide (by omega) (by simp) <;>
      (intro b hb e; have := HO.out.lt b hb; injection e with e; simp only [] at e; omega)
  · exact (((HB.out.setCell (by show w.heap.size ≤ g1 + 1 + 1; omega) _).setCell (by show w.heap.size ≤ g1 + 1 + 1; omega) _).setCell (by show w.heap.size ≤ g1 + 1; omega) _).setCell (by show w.heap.size ≤ g1 + 1; omega) _

theorem Try.infoTermZC : (Try.prog.info? 87).map (fun i => (i.zero, i.size, i.bytes)) = some (some (.agg #[.slice none 0 0, .int .i64 0]), 2, 32) := by kernel_rfl
/-- 'make([]Term, n)'. -/
theorem wpList_make_termsC {ops : Array Oper} {rest : List Oper} {o : Oper} {a : Act} {w : World} {Q : Exit → Act → World → Prop} (hgd : o.guard = none) (l c : Operand) (ho : o.op = .makeSlice 55 l c)
    (n : Nat) (hl : a.eval l = .int .i64 n) (hc : a.eval c = .int .i64 n) (hn : n ≤ 1099511627776)
    (hK : ∀ w', OwnTC w' w.heap.size w'.heap.size (some ⟨w.heap.size, 0, none⟩) n n (zeroT n) → Below w.heap.size w w' → wpList Try.prog ops Q rest (a.put o.dst (.slice (some ⟨w.heap.size, 0, none⟩) n n)) w') :
    wpList Try.prog ops Q (o :: rest) a w := by
  obtain ⟨i0, hi, hz0, hz1, hz2⟩ := info_parts Try.infoTermZC
  refine wpList_make_full w hgd l c 55 ho w.heap.size 87 i0 (.agg #[.slice none 0 0, .int .i64 0]) 2 Try.underlying55 hi hz0 hz1 .i64 .i64 n n n hl hc rfl rfl (by rw [hz2]; omega) (by unfold maxLen; omega) (Nat.le_refl _) ?_
  intro w1 ho1 hg1
  refine hK w1 (OwnTC.zeros ho1 ?_) (grow_below hg1 (Nat.le_refl _) (by intro k hk; cases hk))
  exact (ho1.lt w.heap.size rfl).2
set_option maxHeartbeats 800000 in
theorem toTermS_anyC (A : Option Addr) (n c : Nat) (ts : List Tm) (w : World) (hs : TS w A n ts) (hn : n ≤ 1099511627776) (hne : ∀ k, k < n → (tm ts k).1.length ≤ 1099511627776) :
    Calls Try.prog 52 #[.slice A n c] w fun e w' => FreshTC w w' e ts := by
  have hl := hs.1
  have HNE := Lib.hid hne
  have HL := Lib.hid hl
  obtain ⟨B, hB⟩ : ∃ B, B = w.heap.size := ⟨_, rfl⟩
  have HB0 : Hid (B = w.heap.size) := hB
  clear hne
  go_enter Try.func52, Try.ntmps52
  go_wp2_with (at_make; refine wpList_make_termsC rfl (.tmp 6) (.tmp 6) rfl n rfl rfl hn ?_; intro w1 hown hbel1)
  rw [← hB] at hown hbel1 ⊢
  go_loopw [4] (fun i wr => ∃ k : Nat, k ≤ n ∧ i = .int .i64 k ∧ OwnTC wr B wr.heap.size (some ⟨B, 0, none⟩) n n (copT ts k) ∧ Below B w wr)
    (fun i _ => n - (intOf i).toNat)
  case atStart =>
    refine ⟨0, Nat.zero_le _, rfl, ?_, hbel1⟩
    rw [copT_zero, hl]; exact hown
  case round =>
    obtain ⟨k, hk, rfl, hown2, hbel⟩ := hrel
    clear hown hbel1 w1
    have HO := Lib.hid hown2
    have HB := Lib.hid hbel
    by_cases hlt : k < n
    · obtain ⟨b, o, A', n', c', rfl, hb, hc0, hc1, hsi, hnc, hnil⟩ := (hs.below hbel (by omega)).at_ hlt
      obtain ⟨x, hx⟩ : ∃ x, x = (tm ts k).2 := ⟨_, rfl⟩
      obtain ⟨xs, hxs⟩ : ∃ xs, xs = (tm ts k).1 := ⟨_, rfl⟩
      rw [← hx] at hc1
      rw [← hxs] at hsi
      have hn' : n' ≤ 1099511627776 := by have := HNE.out k hlt; rw [← hxs] at this; have := hsi.1; omega
      have HX := Lib.hid hx
      have HXS := Lib.hid hxs
      have HSI := Lib.hid hsi
      clear hx hxs hown2 hbel hs hl hsi hB
      have hlI : (k : Int) < (n : Int) := by omega
      go_wp2_with fail
      refine (toTerm_anyC _ _ _ xs x _ HSI.out hn').mono ?_
      rintro e w2 ⟨A2, n2, c2, rfl, ho2, hb2⟩
      have hO2 := HO.out.below hb2 (Nat.le_refl _)
      obtain ⟨A3, n3, c3, hd0, hd1, hfz, _⟩ := hO2.exp hlt
      have hf0 := hfz (k * 2)
      have hf1 := hfz (k * 2 + 1)
      have hput := hO2.put hlt ho2 (Nat.le_refl _) (Nat.le_trans (by have := HB0.out; have := HB.out.size; omega) (Nat.le_refl _)) hb2.size x
      have HP := Lib.hid hput
      have HB2 := Lib.hid (HB.out.trans (hb2.mono (by have := HB.out.size; have := HB0.out; omega)))
      have HBW := Lib.hid (Nat.le_refl B)
      clear hfz hput hO2 ho2 hb2 HSI hc0 hc1
      go_wp2
      go_roundw
      case rel =>
        refine ⟨k + 1, by omega, by go_num, ?_, ?_⟩
        · have h1 := HP.out.1
          rw [HX.out, HXS.out, copT_succ (by rw [HL.out]; exact hlt)] at h1
          rw [HX.out]
          simpa using h1
        · exact HB2.out.grown HP.out.2 (by have := HB2.out.size; have := HB0.out; omega) (by rintro q ⟨⟩; exact Nat.le_refl _)
      case measure => simp [intOf]; omega
    · have hkn : k = n := by omega
      subst hkn
      go_wp2
      go_ret
      have e := HB0.out
      subst e
      refine ⟨_, _, _, rfl, ?_, HB.out⟩
      have := HO.out
      rw [← HL.out, copT_all] at this
      rw [← HL.out]
      exact this
end Go.Proofs.Ythinbmjcdcmioaa.Cls
