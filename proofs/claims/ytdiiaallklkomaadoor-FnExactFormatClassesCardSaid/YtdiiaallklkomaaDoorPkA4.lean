/-
  Texts FclS to ClsFrF, merged. Conditions: as each says.
-/
import Derived.Deep.SlicePairs
import Derived.Test.YtdiiaallklkomaaDoorPkA3
/-
  Sums of classes as texts: the document's FormatClasses. Conditions: at most 2^20 classes, numbers that an int holds.
-/




namespace Go.Proofs.YtdiiaallklkomaaDoor
open Go.RowKit

/-- A class's text. -/
def clP (t : Tm) : List Int := txtL t.2 ++ [58] ++ fmtN t.1
/-- What FormatClasses answers, as bytes. -/
def crL (ts : List Tm) : List Int := if classesB ts = true then sumL (fun k => clP (tm ts k)) ts.length else []
theorem class_perm {ts : List Tm} (h : classesB ts = true) {k : Nat} (hk : k < ts.length) : isPermB (tm ts k).1 = true := (((classesB_iff ts).1 h).2 k hk).1
theorem fmtN_perm {xs : List Int} (h : isPermB xs = true) : (fmtN xs).length ≤ 7 := by rw [fmtN_len]; exact (isPermB_P h).2.1
theorem clP_len {ts : List Tm} (h : classesB ts = true) (hf : FitT ts) (k : Nat) : (clP (tm ts k)).length ≤ 400 := by
  have hx : (txtL (tm ts k).2).length ≤ 21 ∧ (fmtN (tm ts k).1).length ≤ 7 := by
    rcases Nat.lt_or_ge k ts.length with hk | hk
    · exact ⟨txtL_len (hf k hk), fmtN_perm (class_perm h hk)⟩
    · have e : tm ts k = ([], 0) := by unfold tm; simp [List.getD, List.getElem?_eq_none hk]
      rw [e]
      exact ⟨txtL_len (by decide), by simp [fmtN]⟩
  unfold clP
  rw [List.length_append, List.length_append]
  simp
  omega
set_option maxRecDepth 100000 in
set_option maxHeartbeats 4000000 in
theorem specFcl_any (A : Option Addr) (n c : Nat) (ts : List Tm) (w : World) (hs : TS w A n ts) (hn : n ≤ 1048576) (hne : ∀ k, k < n → (tm ts k).1.length ≤ 1048576) (hf : FitT ts) :
    Calls Tryd.prog 21 #[.slice A n c] w fun e w' => e = .returned (.string (strOfNums (crL ts))) ∧ Below w.heap.size w w' := by
  have HL := Lib.hid hs.1
  have HP := Lib.hid (specClasses_any A n c ts w hs (by omega) (fun k hk => Nat.le_trans (hne k hk) (by decide)))
  cases hb : classesB ts with
  | false =>
    rw [hb] at HP
    have HE : Hid (crL ts = []) := Lib.hid (by unfold crL; rw [if_neg (by rw [hb]; decide)])
    clear hb hs
    go_enter Tryd.func21, Tryd.ntmps21
    go_wp2_with (go_at_call 47; (with_reducible refine HP.out.mono ?_); rintro e w1 ⟨rfl, hd1⟩; have HD1 := Lib.hid hd1; clear hd1)
    go_ret
    exact ⟨by rw [HE.out]; rfl, HD1.out⟩
  | true =>
    rw [hb] at HP
    have HPB := Lib.hid hb
    have HE : Hid (crL ts = sumL (fun k => clP (tm ts k)) n) := Lib.hid (by unfold crL; rw [if_pos hb, hs.1])
    have HF := Lib.hid hf
    clear hb hf
    by_cases hn0 : n = 0
    · have HZ0 : Hid (crL ts = [48]) := Lib.hid (by rw [HE.out]; unfold sumL; rw [if_pos hn0])
      subst hn0
      clear hs
      go_enter Tryd.func21, Tryd.ntmps21
      go_wp2_with (go_at_call 47; (with_reducible refine HP.out.mono ?_); rintro e w1 ⟨rfl, hd1⟩; have HD1 := Lib.hid hd1; clear hd1)
      go_ret
      exact ⟨by rw [HZ0.out]; rfl, HD1.out⟩
    · have HZ0 : Hid (crL ts = jnP (fun k => clP (tm ts k)) n) := Lib.hid (by rw [HE.out]; unfold sumL; rw [if_neg hn0])
      have hnI : ¬ (n : Int) = 0 := by omega
      go_enter Tryd.func21, Tryd.ntmps21
      go_wp2_with (go_at_call 47; (with_reducible refine HP.out.mono ?_); rintro e w1 ⟨rfl, hd1⟩; have HD1 := Lib.hid hd1; clear hd1)
      rw [show ((n : Int) == 0) = false by simp; omega]
      go_loopw [3, 4] (fun sv iv wr => ∃ k : Nat, k ≤ n ∧ iv = .int .i64 k ∧ sv = .string (strOfNums (jnP (fun k => clP (tm ts k)) k)) ∧ Below w.heap.size w wr)
        (fun _ iv _ => n - (intOf iv).toNat)
      case atStart => exact ⟨0, Nat.zero_le _, rfl, rfl, HD1.out⟩
      case round =>
        obtain ⟨k, hk, rfl, rfl, hb⟩ := hrel
        have HB := Lib.hid hb
        clear hb hn0 hnI
        by_cases hlt : k < n
        · have hlI : (k : Int) < (n : Int) := by omega
          obtain ⟨b, o, A', n', c', rfl, hb, hc0, hc1, hsi, hnc, _⟩ := (hs.below HB.out (Nat.le_refl _)).at_ hlt
          have HSI := Lib.hid hsi
          have HNC := Lib.hid hnc
          have HX := Lib.hid (HF.out k (by rw [HL.out]; exact hlt))
          have HSF := Lib.hid (class_perm HPB.out (by rw [HL.out]; exact hlt))
          have HN' : Hid (n' ≤ 1048576) := Lib.hid (by have h1 := hsi.1; have h2 := (isPermB_P HSF.out).2.1; omega)
          obtain ⟨x, hx⟩ : ∃ x, x = (tm ts k).2 := ⟨_, rfl⟩
          obtain ⟨xs, hxs⟩ : ∃ xs, xs = (tm ts k).1 := ⟨_, rfl⟩
          rw [← hx] at hc1 HX
          rw [← hxs] at HSI HSF
          have HXE : Hid (clP (tm ts k) = txtL x ++ [58] ++ fmtN xs) := Lib.hid (by rw [hx, hxs]; rfl)
          obtain ⟨s1, hs1⟩ : ∃ s, s = strOfNums (txtL x) := ⟨_, rfl⟩
          obtain ⟨s2, hs2⟩ : ∃ s, s = strOfNums (fmtN xs) := ⟨_, rfl⟩
          have HZ1 : Hid (s1.size ≤ 21) := Lib.hid (by rw [hs1, strOfNums_size]; exact txtL_len HX.out)
          have HZ2 : Hid (s2.size ≤ 352) := Lib.hid (by rw [hs2, strOfNums_size]; have h3 := fmtN_perm HSF.out; omega)
          have CA1 : Hid (∀ u, AfterT wr u → Calls Tryd.prog 9 #[.int .i64 x] u (fun r u2 => r = .returned (.string s1) ∧ AfterT wr u2)) := Lib.hid (fun u hu => by rw [hs1]; exact (specFmt_any x u HX.out.1 HX.out.2).mono fun r u2 ⟨e1, e2⟩ => ⟨e1, Below.trans hu (e2.mono hu.size)⟩)
          have CA2 : Hid (∀ u, AfterT wr u → Calls Tryd.prog 48 #[.slice A' n' c'] u (fun r u2 => r = .returned (.string s2) ∧ AfterT wr u2)) := Lib.hid (fun u hu => by rw [hs2, ← fmtB_yes HSF.out]; exact (specFormat_any A' n' c' xs u (HSI.out.below hu (Nat.le_refl _)) HNC.out (by have := HN'.out; omega)).mono fun r u2 ⟨e1, e2⟩ => ⟨e1, Below.trans hu (e2.mono hu.size)⟩)
          have C1 : Hid (∀ u, AfterT wr u → u.cell? ⟨b, o + k * 2 + 1, none⟩ = some (.int .i64 x)) := Lib.hid (fun u hu => (Below.cell hu (p := ⟨b, o + k * 2 + 1, none⟩) hb).trans hc1)
          have C0 : Hid (∀ u, AfterT wr u → u.cell? ⟨b, o + k * 2, none⟩ = some (.slice A' n' c')) := Lib.hid (fun u hu => (Below.cell hu (p := ⟨b, o + k * 2, none⟩) hb).trans hc0)
          obtain ⟨t, ht⟩ : ∃ t, t = strOfNums (jnP (fun k => clP (tm ts k)) k) := ⟨_, rfl⟩
          have HTZ : Hid (t.size ≤ 421527552) := Lib.hid (by rw [ht, strOfNums_size]; have h1 := jnP_len (clP_len HPB.out HF.out) k; omega)
          have HTE := Lib.hid ht
          have hpc : strOfNums (clP (tm ts k)) = s1 ++ (⟨#[58]⟩ : ByteArray) ++ s2 := by rw [HXE.out, strOfNums_append, strOfNums_append, hs1, hs2]; rfl
          have HPC := Lib.hid hpc
          rw [← ht]
          clear hsi hnc hc0 hc1 hx hxs hs1 hs2 ht hpc hs hb
          rcases Nat.eq_zero_or_pos k with h0 | h0
          · subst h0
            have HN1 : Hid (strOfNums (jnP (fun k => clP (tm ts k)) 1) = t ++ s1 ++ (⟨#[58]⟩ : ByteArray) ++ s2) := Lib.hid (by rw [jnP_first, HPC.out, HTE.out]; show _ = strOfNums [] ++ s1 ++ _ ++ s2; rw [show strOfNums [] = ByteArray.empty from rfl, ByteArray.empty_append, ])
            rw [Nat.zero_mul, Nat.add_zero] at C0 C1
            go_upto_region 11 with fail
            refine tq_class (AfterT wr) (by kernel_rfl) (by kernel_rfl) (Below.refl _ _).drew ?_
            go_big_quiet_want
            go_big_quiet_op
            first | go_big_quiet_on | (refine ⟨_, fun _ _ => rfl, ?_⟩; go_big_quiet_on)
            go_big_quiet_want
            go_big_quiet_op
            first | go_big_quiet_on | (refine ⟨_, fun _ _ => rfl, ?_⟩; go_big_quiet_on)
            go_big_quiet_want
            go_big_quiet_op
            first | go_big_quiet_on | (refine ⟨_, fun _ _ => rfl, ?_⟩; go_big_quiet_on)
            go_big_quiet_want
            go_big_quiet_op
            first | go_big_quiet_on | (refine ⟨_, fun _ _ => rfl, ?_⟩; go_big_quiet_on)
            go_big_quiet_want
            go_big_quiet_op
            first | go_big_quiet_on | (refine ⟨_, fun _ _ => rfl, ?_⟩; go_big_quiet_on)
            go_big_quiet_want
            refine quiet_loadcell0 3 (.tmp 25) rfl b (o + 1) rfl _ C1.out rfl ?_
            go_big_quiet_on
            go_simp
            go_big_quiet_want
            go_big_quiet_op
            refine ⟨.string s1, fun u hu => CA1.out u hu, ?_⟩
            go_big_quiet_on
            go_big_quiet_want
            go_big_quiet_op
            refine ⟨.string (t ++ s1), fun u hu => by rw [if_neg (by have := HTZ.out; have := HZ1.out; have := HZ2.out; have e58 : (⟨#[58]⟩ : ByteArray).size = 1 := rfl; have e44 : (⟨#[44, 32]⟩ : ByteArray).size = 2 := rfl; (try simp only [ByteArray.size_append]); omega)]; exact ⟨rfl, rfl⟩, ?_⟩
            go_big_quiet_on
            go_big_quiet_want
            go_big_quiet_op
            refine ⟨.string (t ++ s1 ++ (⟨#[58]⟩ : ByteArray)), fun u hu => by rw [if_neg (by have := HTZ.out; have := HZ1.out; have := HZ2.out; have e58 : (⟨#[58]⟩ : ByteArray).size = 1 := rfl; have e44 : (⟨#[44, 32]⟩ : ByteArray).size = 2 := rfl; (try simp only [ByteArray.size_append]); omega)]; exact ⟨rfl, rfl⟩, ?_⟩
            go_big_quiet_on
            go_big_quiet_want
            go_big_quiet_op
            first | go_big_quiet_on | (refine ⟨_, fun _ _ => rfl, ?_⟩; go_big_quiet_on)
            go_big_quiet_want
            go_big_quiet_op
            first | go_big_quiet_on | (refine ⟨_, fun _ _ => rfl, ?_⟩; go_big_quiet_on)
            go_big_quiet_want
            go_big_quiet_op
            first | go_big_quiet_on | (refine ⟨_, fun _ _ => rfl, ?_⟩; go_big_quiet_on)
            go_big_quiet_want
            go_big_quiet_op
            first | go_big_quiet_on | (refine ⟨_, fun _ _ => rfl, ?_⟩; go_big_quiet_on)
            go_big_quiet_want
            refine quiet_loadcell1 24 (.tmp 33) rfl b o rfl _ C0.out rfl ?_
            go_big_quiet_on
            go_simp
            go_big_quiet_want
            go_big_quiet_op
            refine ⟨.string s2, fun u hu => CA2.out u hu, ?_⟩
            go_big_quiet_on
            go_big_quiet_want
            go_big_quiet_op
            refine ⟨.string (t ++ s1 ++ (⟨#[58]⟩ : ByteArray) ++ s2), fun u hu => by rw [if_neg (by have := HTZ.out; have := HZ1.out; have := HZ2.out; have e58 : (⟨#[58]⟩ : ByteArray).size = 1 := rfl; have e44 : (⟨#[44, 32]⟩ : ByteArray).size = 2 := rfl; (try simp only [ByteArray.size_append]); omega)]; exact ⟨rfl, rfl⟩, ?_⟩
            go_big_quiet_on
            go_big_quiet_want
            go_big_quiet_op
            first | go_big_quiet_on | (refine ⟨_, fun _ _ => rfl, ?_⟩; go_big_quiet_on)
            refine wpQuiet_nil ?_
            intro w6 hw6
            have HB6 : Hid (Below w.heap.size w w6) := Lib.hid (HB.out.trans (Below.mono hw6 HB.out.size))
            clear hw6
            go_wp2
            go_roundw
            case rel => exact ⟨1, by omega, by go_num, by rw [HN1.out], HB6.out⟩
            case measure => simp [intOf]; omega
          · have hk0 : (0 : Int) < (k : Int) := by omega
            have HN1 : Hid (strOfNums (jnP (fun k => clP (tm ts k)) (k + 1)) = t ++ (⟨#[44, 32]⟩ : ByteArray) ++ s1 ++ (⟨#[58]⟩ : ByteArray) ++ s2) := Lib.hid (by rw [jnP_more (by omega), strOfNums_append, strOfNums_append, HPC.out, HTE.out, ← ByteArray.append_assoc, ← ByteArray.append_assoc]; rfl)
            have hsp : (⟨#[44, 32]⟩ : ByteArray).size = 2 := rfl
            have htz := HTZ.out
            go_upto_region 11 with fail
            all_goals try (exfalso; omega)
            refine tq_class (AfterT wr) (by kernel_rfl) (by kernel_rfl) (Below.refl _ _).drew ?_
            go_big_quiet_want
            go_big_quiet_op
            first | go_big_quiet_on | (refine ⟨_, fun _ _ => rfl, ?_⟩; go_big_quiet_on)
            go_big_quiet_want
            go_big_quiet_op
            first | go_big_quiet_on | (refine ⟨_, fun _ _ => rfl, ?_⟩; go_big_quiet_on)
            go_big_quiet_want
            go_big_quiet_op
            first | go_big_quiet_on | (refine ⟨_, fun _ _ => rfl, ?_⟩; go_big_quiet_on)
            go_big_quiet_want
            go_big_quiet_op
            first | go_big_quiet_on | (refine ⟨_, fun _ _ => rfl, ?_⟩; go_big_quiet_on)
            go_big_quiet_want
            go_big_quiet_op
            first | go_big_quiet_on | (refine ⟨_, fun _ _ => rfl, ?_⟩; go_big_quiet_on)
            go_big_quiet_want
            refine quiet_loadcell0 3 (.tmp 25) rfl b (o + k * 2 + 1) rfl _ C1.out rfl ?_
            go_big_quiet_on
            go_simp
            go_big_quiet_want
            go_big_quiet_op
            refine ⟨.string s1, fun u hu => CA1.out u hu, ?_⟩
            go_big_quiet_on
            go_big_quiet_want
            go_big_quiet_op
            refine ⟨.string (t ++ (⟨#[44, 32]⟩ : ByteArray) ++ s1), fun u hu => by rw [if_neg (by have := HTZ.out; have := HZ1.out; have := HZ2.out; have e58 : (⟨#[58]⟩ : ByteArray).size = 1 := rfl; have e44 : (⟨#[44, 32]⟩ : ByteArray).size = 2 := rfl; (try simp only [ByteArray.size_append]); omega)]; exact ⟨rfl, rfl⟩, ?_⟩
            go_big_quiet_on
            go_big_quiet_want
            go_big_quiet_op
            refine ⟨.string (t ++ (⟨#[44, 32]⟩ : ByteArray) ++ s1 ++ (⟨#[58]⟩ : ByteArray)), fun u hu => by rw [if_neg (by have := HTZ.out; have := HZ1.out; have := HZ2.out; have e58 : (⟨#[58]⟩ : ByteArray).size = 1 := rfl; have e44 : (⟨#[44, 32]⟩ : ByteArray).size = 2 := rfl; (try simp only [ByteArray.size_append]); omega)]; exact ⟨rfl, rfl⟩, ?_⟩
            go_big_quiet_on
            go_big_quiet_want
            go_big_quiet_op
            first | go_big_quiet_on | (refine ⟨_, fun _ _ => rfl, ?_⟩; go_big_quiet_on)
            go_big_quiet_want
            go_big_quiet_op
            first | go_big_quiet_on | (refine ⟨_, fun _ _ => rfl, ?_⟩; go_big_quiet_on)
            go_big_quiet_want
            go_big_quiet_op
            first | go_big_quiet_on | (refine ⟨_, fun _ _ => rfl, ?_⟩; go_big_quiet_on)
            go_big_quiet_want
            go_big_quiet_op
            first | go_big_quiet_on | (refine ⟨_, fun _ _ => rfl, ?_⟩; go_big_quiet_on)
            go_big_quiet_want
            refine quiet_loadcell1 24 (.tmp 33) rfl b (o + k * 2) rfl _ C0.out rfl ?_
            go_big_quiet_on
            go_simp
            go_big_quiet_want
            go_big_quiet_op
            refine ⟨.string s2, fun u hu => CA2.out u hu, ?_⟩
            go_big_quiet_on
            go_big_quiet_want
            go_big_quiet_op
            refine ⟨.string (t ++ (⟨#[44, 32]⟩ : ByteArray) ++ s1 ++ (⟨#[58]⟩ : ByteArray) ++ s2), fun u hu => by rw [if_neg (by have := HTZ.out; have := HZ1.out; have := HZ2.out; have e58 : (⟨#[58]⟩ : ByteArray).size = 1 := rfl; have e44 : (⟨#[44, 32]⟩ : ByteArray).size = 2 := rfl; (try simp only [ByteArray.size_append]); omega)]; exact ⟨rfl, rfl⟩, ?_⟩
            go_big_quiet_on
            go_big_quiet_want
            go_big_quiet_op
            first | go_big_quiet_on | (refine ⟨_, fun _ _ => rfl, ?_⟩; go_big_quiet_on)
            refine wpQuiet_nil ?_
            intro w6 hw6
            have HB6 : Hid (Below w.heap.size w w6) := Lib.hid (HB.out.trans (Below.mono hw6 HB.out.size))
            clear hw6
            go_wp2
            go_roundw
            case rel => exact ⟨k + 1, by omega, by go_num, by rw [HN1.out], HB6.out⟩
            case measure => simp [intOf]; omega
        · obtain rfl : k = n := by omega
          go_wp2
          go_ret
          exact ⟨by rw [HZ0.out]; rfl, HB.out⟩
end Go.Proofs.YtdiiaallklkomaaDoor

/-
  Sums of classes as texts: the program's FormatClasses. Conditions: at most 2^20 classes, numbers that an int holds.
-/


namespace Go.Proofs.YtdiiaallklkomaaDoor
open Go.RowKit

set_option maxRecDepth 100000 in
set_option maxHeartbeats 2000000 in
theorem classFmt_any (A : Option Addr) (n c : Nat) (xs : List Int) (x : Int) (w : World) (hs : SI w A n xs) (hn : n ≤ 1048576) (hf : isPermB xs = true) (hx : -9223372036854775808 ≤ x ∧ x ≤ 9223372036854775807) (htab : Lib.TabIs Tryd.prog w "internal/strconv.uint64pow10" .u64 Lib.pow10Tab) :
    Calls Tryd.prog 52 #[.agg #[.slice A n c, .int .i64 x]] w fun e w' => e = .returned (.string (strOfNums (clP (xs, x)))) ∧ Below w.heap.size w w' := by
  obtain ⟨w1, hw1⟩ : ∃ w1, w1 = w.alloc (.cells #[.slice A n c, .int .i64 x] 81) := ⟨_, rfl⟩
  obtain ⟨g, hg⟩ : ∃ g, g = w.heap.size := ⟨_, rfl⟩
  have hk : Blk w1 g 81 #[.slice A n c, .int .i64 x] := by rw [hw1, hg]; exact Blk.new _ _ _
  have hb : Below w.heap.size w w1 := by rw [hw1]; exact Below.alloc_self _ _
  have HB := Lib.hid hb
  have HW := Lib.hid hw1
  have HG := Lib.hid hg
  have HK := Lib.hid hk
  have HS := Lib.hid (hs.below hb (Nat.le_refl _))
  have HX := Lib.hid hx
  have HN := Lib.hid hn
  have HF := Lib.hid hf
  have HTB := Lib.hid (fun (u : World) (hu : Below w.heap.size w u) => tab_below htab hu)
  obtain ⟨s1, hs1⟩ : ∃ s, s = strOfNums (txtL x) := ⟨_, rfl⟩
  obtain ⟨s2, hs2⟩ : ∃ s, s = strOfNums (fmtN xs) := ⟨_, rfl⟩
  have HZ1 : Hid (s1.size ≤ 21) := Lib.hid (by rw [hs1, strOfNums_size]; exact txtL_len hx)
  have HZ2 : Hid (s2.size ≤ 23068672) := Lib.hid (by rw [hs2, strOfNums_size]; have h3 := fmtN_perm hf; omega)
  have HTZ : Hid ((⟨#[]⟩ : ByteArray).size ≤ 0) := Lib.hid (Nat.le_refl _)
  have CA1 : Hid (∀ u, AfterT w1 u → Calls Tryd.prog 10 #[.int .i64 x] u (fun r u2 => r = .returned (.string s1) ∧ AfterT w1 u2)) := Lib.hid (fun u hu => by rw [hs1]; exact (implFmt_any x u HX.out.1 HX.out.2 (HTB.out u (HB.out.trans (Below.mono hu HB.out.size)))).mono fun r u2 ⟨e1, e2⟩ => ⟨e1, Below.trans hu (e2.below.mono hu.size)⟩)
  have CA2 : Hid (∀ u, AfterT w1 u → Calls Tryd.prog 76 #[.slice A n c] u (fun r u2 => r = .returned (.string s2) ∧ AfterT w1 u2)) := Lib.hid (fun u hu => by rw [hs2, ← fmtB_yes HF.out]; exact (implFormat_any A n c xs u (HS.out.below hu (Nat.le_refl _)) (by have := HN.out; omega)).mono fun r u2 ⟨e1, e2⟩ => ⟨e1, Below.trans hu (e2.mono hu.size)⟩)
  have C1 : Hid (∀ u, AfterT w1 u → u.cell? ⟨g, 1, none⟩ = some (.int .i64 x)) := Lib.hid (fun u hu => (HK.out.below hu HK.out.lt).cell 1)
  have C0 : Hid (∀ u, AfterT w1 u → u.cell? ⟨g, 0, none⟩ = some (.slice A n c)) := Lib.hid (fun u hu => (HK.out.below hu HK.out.lt).cell 0)
  have HPC : Hid (strOfNums (clP (xs, x)) = s1 ++ (⟨#[58]⟩ : ByteArray) ++ s2) := Lib.hid (by show strOfNums (txtL x ++ [58] ++ fmtN xs) = _; rw [strOfNums_append, strOfNums_append, hs1, hs2]; rfl)
  clear hk hb hw1 hg hs hx hn hf htab hs1 hs2
  go_enter Tryd.func52, Tryd.ntmps52
  go_upto_region 1 with fail
  rw [← HW.out, ← HG.out]
  refine tq_class (AfterT w1) (by kernel_rfl) (by kernel_rfl) (Below.refl _ _).drew ?_
  go_big_quiet_want
  go_big_quiet_op
  first | go_big_quiet_on | (refine ⟨_, fun _ _ => rfl, ?_⟩; go_big_quiet_on)
  go_big_quiet_want
  refine quiet_loadcell0 3 (.tmp 3) rfl g 1 rfl _ C1.out rfl ?_
  go_big_quiet_on
  go_simp
  go_big_quiet_want
  go_big_quiet_op
  refine ⟨.string s1, fun u hu => CA1.out u hu, ?_⟩
  go_big_quiet_on
  go_big_quiet_want
  go_big_quiet_op
  refine ⟨.string (s1 ++ (⟨#[58]⟩ : ByteArray)), fun u hu => by rw [if_neg (by have := HTZ.out; have := HZ1.out; have := HZ2.out; have e58 : (⟨#[58]⟩ : ByteArray).size = 1 := rfl; have e44 : (⟨#[44, 32]⟩ : ByteArray).size = 2 := rfl; (try simp only [ByteArray.size_append]); omega)]; exact ⟨rfl, rfl⟩, ?_⟩
  go_big_quiet_on
  go_big_quiet_want
  go_big_quiet_op
  first | go_big_quiet_on | (refine ⟨_, fun _ _ => rfl, ?_⟩; go_big_quiet_on)
  go_big_quiet_want
  refine quiet_loadcell1 24 (.tmp 7) rfl g 0 rfl _ C0.out rfl ?_
  go_big_quiet_on
  go_simp
  go_big_quiet_want
  go_big_quiet_op
  refine ⟨.string s2, fun u hu => CA2.out u hu, ?_⟩
  go_big_quiet_on
  go_big_quiet_want
  go_big_quiet_op
  refine ⟨.string (s1 ++ (⟨#[58]⟩ : ByteArray) ++ s2), fun u hu => by rw [if_neg (by have := HTZ.out; have := HZ1.out; have := HZ2.out; have e58 : (⟨#[58]⟩ : ByteArray).size = 1 := rfl; have e44 : (⟨#[44, 32]⟩ : ByteArray).size = 2 := rfl; (try simp only [ByteArray.size_append]); omega)]; exact ⟨rfl, rfl⟩, ?_⟩
  go_big_quiet_on
  go_big_quiet_want
  go_big_quiet_op
  first | go_big_quiet_on | (refine ⟨_, fun _ _ => rfl, ?_⟩; go_big_quiet_on)
  refine wpQuiet_nil ?_
  intro w6 hw6
  have HB6 : Hid (Below w.heap.size w w6) := Lib.hid (HB.out.trans (Below.mono hw6 HB.out.size))
  clear hw6
  go_wp2
  go_ret
  exact ⟨by rw [HPC.out]; rfl, HB6.out⟩
set_option maxRecDepth 100000 in
set_option maxHeartbeats 2000000 in
theorem classesSum_any (A : Option Addr) (n c : Nat) (ts : List Tm) (w : World) (hs : TS w A n ts) (hn : n ≤ 1048576) (hsh : ∀ k, k < ts.length → isPermB (tm ts k).1 = true) (hf : FitT ts) (hpl : ∀ k, (clP (tm ts k)).length ≤ 400) (htab : Lib.TabIs Tryd.prog w "internal/strconv.uint64pow10" .u64 Lib.pow10Tab) :
    Calls Tryd.prog 51 #[.slice A n c, .func (.func 52) #[] #[]] w fun e w' => e = .returned (.string (strOfNums (sumL (fun k => clP (tm ts k)) n))) ∧ Below w.heap.size w w' := by
  have HL := Lib.hid hs.1
  have HTB := Lib.hid (fun (u : World) (hu : Below w.heap.size w u) => tab_below htab hu)
  have HSH := Lib.hid hsh
  have HF := Lib.hid hf
  clear htab hsh hf
  by_cases hn0 : n = 0
  · subst hn0
    clear hs
    go_enter Tryd.func51, Tryd.ntmps51
    go_wp2
    go_ret
    exact ⟨rfl, Below.refl _ _⟩
  · have hnI : ¬ (n : Int) = 0 := by omega
    have HN0 : Hid (0 < n) := Lib.hid (by omega)
    obtain ⟨B, hB⟩ : ∃ B, B = w.heap.size := ⟨_, rfl⟩
    have HBE := Lib.hid hB
    go_enter Tryd.func51, Tryd.ntmps51
    go_wp2_with (at_make; refine wpList_make_strs rfl (.tmp 12) (.tmp 12) rfl n rfl rfl (by omega) ?_; intro w1 ho1 hb1; have HO1 := Lib.hid ho1; have HB1 := Lib.hid hb1; clear ho1 hb1)
    rw [← hB] at HO1 HB1 ⊢
    clear hB
    have HO2 : Hid (w1.ownsRow B 9 1 (.slice (some ⟨B, 0, none⟩) n n) n ((((List.range 0).map fun j => strOfNums (clP (tm ts j))) ++ List.replicate (n - 0) (⟨#[]⟩ : ByteArray)).map Value.string)) := Lib.hid HO1.out
    clear HO1
    have HB2 : Hid (Below B w w1) := Lib.hid HB1.out
    clear HB1
    go_loopw [16] (fun iv wr => ∃ k : Nat, k ≤ n ∧ iv = .int .i64 k ∧ wr.ownsRow B 9 1 (.slice (some ⟨B, 0, none⟩) n n) n ((((List.range k).map fun j => strOfNums (clP (tm ts j))) ++ List.replicate (n - k) (⟨#[]⟩ : ByteArray)).map Value.string) ∧ Below B w wr)
      (fun iv _ => n - (intOf iv).toNat)
    case atStart => exact ⟨0, Nat.zero_le _, rfl, HO2.out, HB2.out⟩
    case round =>
      obtain ⟨k, hk, rfl, ho, hb⟩ := hrel
      have HO := Lib.hid ho
      have HB := Lib.hid hb
      clear ho hb HO2 HB2 hn0 hnI
      by_cases hlt : k < n
      · have hlI : (k : Int) < (n : Int) := by omega
        obtain ⟨b, o, A', n', c', rfl, hb, hc0, hc1, hsi, _, _⟩ := (hs.below HB.out (by rw [HBE.out]; exact Nat.le_refl _)).at_ hlt
        have HSI := Lib.hid hsi
        have HX := Lib.hid (HF.out k (by rw [HL.out]; exact hlt))
        have HSF := Lib.hid (HSH.out k (by rw [HL.out]; exact hlt))
        have HN' : Hid (n' ≤ 1048576) := Lib.hid (by have h1 := hsi.1; have h2 := (isPermB_P HSF.out).2.1; omega)
        obtain ⟨x, hx⟩ : ∃ x, x = (tm ts k).2 := ⟨_, rfl⟩
        obtain ⟨xs, hxs⟩ : ∃ xs, xs = (tm ts k).1 := ⟨_, rfl⟩
        rw [← hx] at hc1 HX
        rw [← hxs] at HSI HSF
        have HTM : Hid (tm ts k = (xs, x)) := Lib.hid (by rw [hx, hxs])
        clear hsi hs hx hxs
        go_upto_region 7 with fail
        obtain ⟨w5, hw5⟩ : ∃ w5, w5 = wr.alloc (.cells #[.slice A' n' c', .int .i64 x] 81) := ⟨_, rfl⟩
        obtain ⟨g, hg⟩ : ∃ g, g = wr.heap.size := ⟨_, rfl⟩
        have hK5 : Blk w5 g 81 #[.slice A' n' c', .int .i64 x] := by rw [hw5, hg]; exact Blk.new _ _ _
        have hb5 : Below wr.heap.size wr w5 := by rw [hw5]; exact Below.alloc_self _ _
        rw [← hw5, ← hg]
        have HO5 := Lib.hid (ownsRow_below HO.out hb5 (Nat.le_refl _))
        have HBZ : Hid (B ≤ wr.heap.size) := Lib.hid (by rw [HBE.out]; exact HB.out.size)
        have HB5 : Hid (Below B w w5) := Lib.hid (HB.out.trans (hb5.mono HBZ.out))
        have HZ5 : Hid (B ≤ w5.heap.size) := Lib.hid (Nat.le_trans HBZ.out hb5.size)
        have HFM := Lib.hid (classFmt_any A' n' c' xs x w5 (HSI.out.below hb5 (Nat.le_refl _)) HN'.out HSF.out HX.out (HTB.out w5 (by rw [← HBE.out]; exact HB5.out)))
        have k0 : w5.cell? ⟨g, 0, none⟩ = some (.slice A' n' c') := hK5.cell 0
        have k1 : w5.cell? ⟨g, 1, none⟩ = some (.int .i64 x) := hK5.cell 1
        clear hc0 hc1 hw5 hg hK5 hb5 HSI
        obtain ⟨s, hs⟩ : ∃ s, s = strOfNums (clP (xs, x)) := ⟨_, rfl⟩
        rw [← hs] at HFM
        have HNX : Hid (((((List.range k).map fun j => strOfNums (clP (tm ts j))) ++ List.replicate (n - k) (⟨#[]⟩ : ByteArray)).map Value.string).set k (.string s) = (((List.range (k + 1)).map fun j => strOfNums (clP (tm ts j))) ++ List.replicate (n - (k + 1)) (⟨#[]⟩ : ByteArray)).map Value.string) := Lib.hid (by
          rw [show n - k = (n - (k + 1)) + 1 by omega, List.replicate_succ, List.range_succ, List.map_append, List.map_append, List.set_append_right _ _ (by simp)]
          simp [HTM.out, hs])
        clear hs
        go_wp2_with (go_at_call 52; (with_reducible refine HFM.out.mono ?_); rintro e w6 ⟨rfl, hb6⟩; have hO6 := ownsRow_below HO5.out hb6 (Nat.le_refl _); have hff := hO6.frozenAt k; have HO6 := Lib.hid hO6; have HB6 : Hid (Below B w w6) := Lib.hid (HB5.out.trans (hb6.mono HZ5.out)); have HST := Lib.hid (hO6.stored k (.string s)); obtain ⟨v0, hv0⟩ : ∃ v, w6.cell? ⟨B, k, none⟩ = some v := ⟨_, hO6.cellAt k (by omega) |>.trans (List.getElem?_eq_getElem (by have := hO6.1; omega))⟩; clear hO6 hb6)
        go_roundw
        case rel => exact ⟨k + 1, by omega, by go_num, by rw [← HNX.out]; exact HST.out.1, HB6.out.grown HST.out.2 (by rw [HBE.out]; exact HB6.out.size) (by rintro q ⟨⟩; exact Nat.le_refl _)⟩
        case measure => simp [intOf]; omega
      · obtain rfl : k = n := by omega
        have HC : Hid (∀ j, j < k → wr.cell? ⟨B, j, none⟩ = some (.string (strOfNums (clP (tm ts j))))) := Lib.hid (fun j hj => by rw [HO.out.cellAt j (by omega)]; simp [List.getElem?_append, hj])
        have HLEN : Hid ((jnP (fun k => clP (tm ts k)) k).length ≤ 140737488355328) := Lib.hid (by have h1 := jnP_len hpl k; omega)
        have HJ := Lib.hid (join_any B k k (fun k => clP (tm ts k)) wr HC.out (HO.out.lt B rfl).2 HN0.out (Nat.le_refl _) hn HLEN.out)
        have HS1 : Hid (sumL (fun k => clP (tm ts k)) k = jnP (fun k => clP (tm ts k)) k) := Lib.hid (by unfold sumL; rw [if_neg (by have := HN0.out; omega)])
        clear hs
        go_wp2_with (go_at_call 68; (with_reducible refine HJ.out.mono ?_); rintro e w6 ⟨rfl, hb6⟩; have HB6 := Lib.hid hb6; clear hb6)
        go_ret
        exact ⟨by rw [HS1.out]; rfl, by rw [← HBE.out]; exact HB.out.trans (HB6.out.mono (by rw [HBE.out]; exact HB.out.size))⟩
set_option maxHeartbeats 1000000 in
theorem implFcl_any (A : Option Addr) (n c : Nat) (ts : List Tm) (w : World) (hs : TS w A n ts) (hn : n ≤ 1048576) (hne : ∀ k, k < n → (tm ts k).1.length ≤ 1048576) (hf : FitT ts) (htab : Lib.TabIs Tryd.prog w "internal/strconv.uint64pow10" .u64 Lib.pow10Tab) :
    Calls Tryd.prog 23 #[.slice A n c] w fun e w' => e = .returned (.string (strOfNums (crL ts))) ∧ Below w.heap.size w w' := by
  have HP := Lib.hid (implClasses_any A n c ts w hs (by omega) (fun k hk => Nat.le_trans (hne k hk) (by decide)))
  cases hb : classesB ts with
  | false =>
    rw [hb] at HP
    have HE : Hid (crL ts = []) := Lib.hid (by unfold crL; rw [if_neg (by rw [hb]; decide)])
    clear hb hs
    go_enter Tryd.func23, Tryd.ntmps23
    go_wp2_with (go_at_call 50; (with_reducible refine HP.out.mono ?_); rintro e w1 ⟨rfl, hb1⟩; have HB1 := Lib.hid hb1; clear hb1)
    go_ret
    exact ⟨by rw [HE.out]; rfl, HB1.out⟩
  | true =>
    rw [hb] at HP
    have HE : Hid (crL ts = sumL (fun k => clP (tm ts k)) n) := Lib.hid (by unfold crL; rw [if_pos hb, hs.1])
    have HSU := Lib.hid (fun (u : World) (hu : Below w.heap.size w u) => classesSum_any A n c ts u (hs.below hu (Nat.le_refl _)) hn (fun k hk => class_perm hb hk) hf (clP_len hb hf) (tab_below htab hu))
    clear hb hs hf htab
    go_enter Tryd.func23, Tryd.ntmps23
    go_wp2_with (first
      | (go_at_call 50; (with_reducible refine HP.out.mono ?_); rintro e w1 ⟨rfl, hb1⟩; have HB1 := Lib.hid hb1; clear hb1)
      | (go_at_call 51; (with_reducible refine (HSU.out _ HB1.out).mono ?_); rintro e w2 ⟨rfl, hb2⟩; have HB2 := Lib.hid hb2; clear hb2))
    go_ret
    exact ⟨by rw [HE.out]; rfl, HB1.out.trans (HB2.out.mono HB1.out.size)⟩
end Go.Proofs.YtdiiaallklkomaaDoor

/-
  TermFrame, for values of type Class instead of terms (made by wip/gen/gen_cls.py). Conditions: lengths below 2^40.
-/




namespace Go.Proofs.YtdiiaallklkomaaDoor.Cls
open Go.RowKit
open Go.ChangeShapes Go.WideShapes Go.ChangeAt Go.RowKit

theorem TS.of_trodC {H : Type} {enc : TypeId × Value → H} {W : World} {q : Nat} {f : Nat → Bool} {a0 : Option Addr} {len0 cap0 : Nat} {d : DataW H} {p : List MemPlace}
    (h0 : DataW.Trod enc Tryd.prog W q f true 36 (.slice a0 len0 cap0) d p) : ∃ ts, TS W a0 len0 ts ∧ len0 ≤ 9223372036854775807 ∧ (∀ k, k < len0 → (tm ts k).1.length ≤ 9223372036854775807) := by
  obtain ⟨fuel, hf⟩ := h0
  rcases Go.Deep.open_slice_pairs Tryd.underlying36 Tryd.underlying79 (by kernel_rfl) rfl rfl (by kernel_rfl) (by kernel_rfl) hf with ⟨hcs, _⟩ | ⟨a, len, cap, m, n, V0, V1, D0, D1, P0, P1, hcs, hb, hl, hm, hmm, _, hx⟩
  · simp [Value.cells] at hcs
    obtain ⟨rfl, rfl, rfl⟩ := hcs
    exact ⟨[], TS.nil _ _, by omega, fun k hk => absurd hk (by omega)⟩
  · simp [Value.cells] at hcs
    obtain ⟨rfl, rfl, rfl⟩ := hcs
    have hlm : len0 ≤ m := by rw [hmm]; split <;> omega
    have each : ∀ i, i < len0 → ∃ t : Tm, ∃ A' n' c', V0 i = .slice A' n' c' ∧ V1 i = .int .i64 t.2 ∧ SI W A' n' t.1 ∧ n' ≤ c' ∧ (A' = none → n' = 0 ∧ c' = 0) ∧ n' ≤ 9223372036854775807 := by
      intro i hi
      obtain ⟨h1, h2, h3, h4⟩ := hx i (by omega)
      obtain ⟨z, hz, _, _⟩ := DataW.trod_int Tryd.underlying3 h4
      rcases open_ints Tryd.underlying24 Tryd.underlying3 (by kernel_rfl) h3 with ⟨hcs, _⟩ | ⟨x, l, c, zs, hcs, _, hl, hm, hzs, _, hcell, _⟩
      · exact ⟨([], z), none, 0, 0, by simpa using hcs, by simpa using hz, SI.nil _ _, Nat.le_refl _, (fun _ => ⟨rfl, rfl⟩), by omega⟩
      · exact ⟨(zs.take l, z), some x, l, c, by simpa using hcs, by simpa using hz, SI.of_cells (by rw [hzs]; split <;> omega) hcell, hl, (fun h => by cases h), by unfold maxLen at hm; omega⟩
    obtain ⟨T, hT⟩ := Go.Deep.choose_lt each
    refine ⟨(List.range len0).map T, ⟨by simp, fun hn => ?_⟩, by unfold maxLen at hm; omega, fun k hk => ?_⟩
    · obtain ⟨b, o, s⟩ := a
      obtain ⟨h1, _⟩ := hx 0 (by omega)
      have hs : s = none := by simpa [Addr.add] using World.cell?_spot h1
      subst hs
      refine ⟨b, o, rfl, block_lt_of_cell (a := ⟨b, o, none⟩) (by simpa [Addr.add] using h1), fun k hk => ?_⟩
      obtain ⟨A', n', c', e0, e1, hsi, hnc, hnil, _⟩ := hT k hk
      obtain ⟨h1, h2, _, _⟩ := hx k (by omega)
      rw [add_pt] at h1 h2
      have et : tm ((List.range len0).map T) k = T k := by simp [tm, List.getD, hk]
      rw [et]
      exact ⟨A', n', c', by rw [h1, e0], by rw [← e1, ← h2]; rfl, hsi, hnc, hnil⟩
    · obtain ⟨A', n', c', _, _, hsi, _, _, hle⟩ := hT k hk
      have et : tm ((List.range len0).map T) k = T k := by simp [tm, List.getD, hk]
      rw [et, hsi.1]
      exact hle
end Go.Proofs.YtdiiaallklkomaaDoor.Cls

/-
  Lists of values of type Class that came in, their numbers within an int. No conditions.
-/




namespace Go.Proofs.YtdiiaallklkomaaDoor.Cls
open Go.RowKit
open Go.ChangeShapes Go.WideShapes Go.ChangeAt Go.RowKit

theorem TS.of_trodCF {H : Type} {enc : TypeId × Value → H} {W : World} {q : Nat} {f : Nat → Bool} {a0 : Option Addr} {len0 cap0 : Nat} {d : DataW H} {p : List MemPlace}
    (h0 : DataW.Trod enc Tryd.prog W q f true 36 (.slice a0 len0 cap0) d p) : ∃ ts, TS W a0 len0 ts ∧ len0 ≤ 9223372036854775807 ∧ (∀ k, k < len0 → (tm ts k).1.length ≤ 9223372036854775807) ∧ ∀ k, k < ts.length → -9223372036854775808 ≤ (tm ts k).2 ∧ (tm ts k).2 ≤ 9223372036854775807 := by
  obtain ⟨fuel, hf⟩ := h0
  rcases Go.Deep.open_slice_pairs Tryd.underlying36 Tryd.underlying79 (by kernel_rfl) rfl rfl (by kernel_rfl) (by kernel_rfl) hf with ⟨hcs, _⟩ | ⟨a, len, cap, m, n, V0, V1, D0, D1, P0, P1, hcs, hb, hl, hm, hmm, _, hx⟩
  · simp [Value.cells] at hcs
    obtain ⟨rfl, rfl, rfl⟩ := hcs
    exact ⟨[], TS.nil _ _, by omega, fun k hk => absurd hk (by omega), fun k hk => absurd hk (Nat.not_lt_zero _)⟩
  · simp [Value.cells] at hcs
    obtain ⟨rfl, rfl, rfl⟩ := hcs
    have hlm : len0 ≤ m := by rw [hmm]; split <;> omega
    have each : ∀ i, i < len0 → ∃ t : Tm, ∃ A' n' c', V0 i = .slice A' n' c' ∧ V1 i = .int .i64 t.2 ∧ SI W A' n' t.1 ∧ n' ≤ c' ∧ (A' = none → n' = 0 ∧ c' = 0) ∧ n' ≤ 9223372036854775807 ∧ (-9223372036854775808 ≤ t.2 ∧ t.2 ≤ 9223372036854775807) := by
      intro i hi
      obtain ⟨h1, h2, h3, h4⟩ := hx i (by omega)
      obtain ⟨z, hz, _, wz⟩ := DataW.trod_int Tryd.underlying3 h4
      rcases open_ints Tryd.underlying24 Tryd.underlying3 (by kernel_rfl) h3 with ⟨hcs, _⟩ | ⟨x, l, c, zs, hcs, _, hl, hm, hzs, _, hcell, _⟩
      · exact ⟨([], z), none, 0, 0, by simpa using hcs, by simpa using hz, SI.nil _ _, Nat.le_refl _, (fun _ => ⟨rfl, rfl⟩), by omega, bounds_i64 wz⟩
      · exact ⟨(zs.take l, z), some x, l, c, by simpa using hcs, by simpa using hz, SI.of_cells (by rw [hzs]; split <;> omega) hcell, hl, (fun h => by cases h), by unfold maxLen at hm; omega, bounds_i64 wz⟩
    obtain ⟨T, hT⟩ := Go.Deep.choose_lt each
    refine ⟨(List.range len0).map T, ⟨by simp, fun hn => ?_⟩, by unfold maxLen at hm; omega, fun k hk => ?_, fun k hk => ?_⟩
    · obtain ⟨b, o, s⟩ := a
      obtain ⟨h1, _⟩ := hx 0 (by omega)
      have hs : s = none := by simpa [Addr.add] using World.cell?_spot h1
      subst hs
      refine ⟨b, o, rfl, block_lt_of_cell (a := ⟨b, o, none⟩) (by simpa [Addr.add] using h1), fun k hk => ?_⟩
      obtain ⟨A', n', c', e0, e1, hsi, hnc, hnil, _⟩ := hT k hk
      obtain ⟨h1, h2, _, _⟩ := hx k (by omega)
      rw [add_pt] at h1 h2
      have et : tm ((List.range len0).map T) k = T k := by simp [tm, List.getD, hk]
      rw [et]
      exact ⟨A', n', c', by rw [h1, e0], by rw [← e1, ← h2]; rfl, hsi, hnc, hnil⟩
    · obtain ⟨A', n', c', _, _, hsi, _, _, hle, _⟩ := hT k hk
      have et : tm ((List.range len0).map T) k = T k := by simp [tm, List.getD, hk]
      rw [et, hsi.1]
      exact hle
    · have hk2 : k < len0 := by simpa using hk
      obtain ⟨A', n', c', _, _, _, _, _, _, hz⟩ := hT k hk2
      have et : tm ((List.range len0).map T) k = T k := by simp [tm, List.getD, hk2]
      rw [et]
      exact hz
end Go.Proofs.YtdiiaallklkomaaDoor.Cls
