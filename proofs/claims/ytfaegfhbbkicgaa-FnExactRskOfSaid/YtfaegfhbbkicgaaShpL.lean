/-
  The shapes in a box, on both sides. Conditions: lengths below 2^40.
-/
import Derived.Test.YtfaegfhbbkicgaaShpI
import Derived.Test.YtfaegfhbbkicgaaLsHelp
import Derived.Test.YtfaegfhbbkicgaaSpecF
namespace Go.Proofs.Ytfaegfhbbkicgaa
open Go.RowKit

/-- A short list of short lists. -/
structure ShortL (ls : List (List Int)) : Prop where
  le : ls.length ≤ 1099511627776
  lens : ∀ k, (li ls k).length ≤ 1099511627776
  ends : ∀ k, 0 ≤ endS (ls.take k) 1 ∧ endS (ls.take k) 1 ≤ 1099511627776
theorem endS_bound : ∀ (us : List (List Int)) (q : Int), (∀ t ∈ us, t.length ≤ 100) → q ≤ endS us q ∧ endS us q ≤ q + 100 * (us.length : Int)
  | [], q, _ => by simp [endS]
  | t :: r, q, h => by
    have ih := endS_bound r (q + (t.length : Int)) (fun s hs => h s (List.mem_cons_of_mem _ hs))
    have h7 := h t List.mem_cons_self
    show q ≤ endS r _ ∧ endS r _ ≤ _
    rw [List.length_cons]
    omega
theorem ShortL.of {ls : List (List Int)} (h1 : ls.length ≤ 1000000) (h2 : ∀ t ∈ ls, t.length ≤ 100) : ShortL ls := by
  refine ⟨by omega, fun k => ?_, fun k => ?_⟩
  · by_cases hk : k < ls.length
    · rw [li_get hk]; have := h2 _ (List.getElem_mem hk); omega
    · have e : li ls k = [] := by simp [li, List.getD, List.getElem?_eq_none (Nat.le_of_not_lt hk)]
      rw [e]; simp
  · have := endS_bound (ls.take k) 1 (fun t ht => h2 t (List.mem_of_mem_take ht))
    have h2 : (ls.take k).length ≤ ls.length := by rw [List.length_take]; omega
    omega
theorem shapesU_rows : ∀ (r d : Nat) (l : List Int), l ∈ shapesU r d → l.length ≤ r
  | 0, d, l, h => by rw [shapesU_zero, List.mem_singleton] at h; subst h; simp
  | r + 1, d, l, h => by
    rw [shapesU_succ, List.mem_cons] at h
    rcases h with rfl | h
    · simp
    · unfold shapesP at h
      obtain ⟨j, _, hj⟩ := List.mem_flatMap.1 h
      obtain ⟨m, hm, rfl⟩ := List.mem_map.1 hj
      have := shapesU_rows r (j + 1) m hm
      simp; omega
theorem shapesU_few {r d : Nat} (hr : r ≤ 7) (hd : d ≤ 7) : (shapesU r d).length ≤ 3432 := by
  have h : ((List.range 8).all fun r => (List.range 8).all fun d => decide ((shapesU r d).length ≤ 3432)) = true := by decide +kernel
  rw [List.all_eq_true] at h
  have h1 := h r (List.mem_range.2 (by omega))
  rw [List.all_eq_true] at h1
  exact of_decide_eq_true (h1 d (List.mem_range.2 (by omega)))
/-- What ShapesIn answers. -/
def shpOk (r d : Int) : Bool := decide (0 ≤ r ∧ r ≤ 6 ∧ 0 ≤ d ∧ d ≤ 6)
def shpIn (r d : Int) : List (List Int) := if shpOk r d = true then shapesU r.toNat d.toNat else []
theorem shpIn_no {r d : Int} (h : shpOk r d = false) : shpIn r d = [] := by unfold shpIn; rw [if_neg (by rw [h]; decide)]
theorem shpIn_yes {r d : Nat} (h : shpOk (r : Int) (d : Int) = true) : shpIn (r : Int) (d : Int) = shapesU r d := by unfold shpIn; rw [if_pos h, Int.toNat_natCast, Int.toNat_natCast]
theorem shpIn_short (r d : Int) : ShortL (shpIn r d) := by
  unfold shpIn
  split
  · rename_i h
    have h' := of_decide_eq_true h
    refine ShortL.of ?_ (fun t ht => ?_)
    · have := shapesU_few (r := r.toNat) (d := d.toNat) (by omega) (by omega); omega
    · have := shapesU_rows _ _ t ht; omega
  · exact ShortL.of (by simp) (fun t ht => by cases ht)
theorem OwnLE.nil (E : Nat → Sv) (w : World) (lo hi : Nat) : OwnLE E w lo hi none 0 0 [] :=
  ⟨rfl, by simpa [heads] using World.ownsRow_nil _ _ _ _, fun k hk => by simp [Value.ownBlock] at hk, fun j hj => absurd hj (by omega), fun j g hj => absurd hj (by omega), fun i j g _ hj => absurd hj (by omega)⟩
theorem shapesNil_any (r d : Nat) (w : World) (hr : r ≤ 7) (hd : d ≤ 7) :
    Calls Try.prog 144 #[.slice none 0 0, .slice none 0 0, .int .i64 r, .int .i64 d] w fun e w' => FreshL w w' e (shapesU r d) := by
  have hf := shapesU_few hr hd
  refine (appendShapes_any r (r : Int) d (fun _ => (none, 0, 0)) none 0 0 [] none 0 0 [] w w.heap.size w.heap.size rfl (OwnLE.nil _ _ _ _) (Own.nil _ _ _) (Nat.le_refl _) (fun g h => by cases h) (Nat.le_refl _) (by omega) (by omega) (by omega)).mono ?_
  rintro e w' ⟨A', n', c', E', rfl, hE, _, _, hR⟩
  rw [preL_nil, List.nil_append] at hE
  exact ⟨A', n', c', rfl, ⟨E', hE⟩, hR.below (Nat.le_refl _) (fun k h => by cases h) (fun k h => by cases h)⟩
set_option maxHeartbeats 1600000 in
theorem l4Shapes_any (r : Nat) : ∀ (ri : Int) (d : Nat) (E : Nat → Sv) (A : Option Addr) (n c : Nat) (ls : List (List Int)) (F : Option Addr) (nf cf : Nat) (bs : List Int) (w : World) (lo lo2 : Nat), ri = (r : Int) →
    OwnLE E w lo w.heap.size A n c ls → Own w lo2 w.heap.size F nf cf bs → (∀ b, (Value.slice F nf cf).ownBlock = some b → (Value.slice A n c).ownBlock ≠ some b ∧ ∀ j, j < n → (sv (E j)).ownBlock ≠ some b) → lo ≤ lo2 → lo ≤ w.heap.size →
    n + (shapesU r d).length ≤ 1099511627776 → nf + r ≤ 1099511627776 → d ≤ 1099511627776 →
    Calls Try.prog 142 #[.slice F nf cf, .int .i64 ri, .int .i64 d, .slice A n c] w fun e w' => ∃ A' n' c' E', e = .returned (.slice A' n' c') ∧ OwnLE E' w' lo w'.heap.size A' n' c' (ls ++ preL bs (shapesU r d)) ∧
      (∀ j, j < n → E' j = E j) ∧ Below lo w w' := by
  induction r with
  | zero =>
    intro ri d E A n c ls F nf cf bs w lo lo2 hri hE hF hap hlo2 hlo hN hnb hd
    subst hri
    rw [shapesU_zero, preL_cons, show preL bs [] = [] from rfl]
    have hn : n ≤ 1099511627776 := by omega
    have HE := Lib.hid hE
    have HF := Lib.hid hF
    have HAP := Lib.hid hap
    have HLO := Lib.hid (And.intro hlo2 hlo)
    clear hE hF hap hlo2 hlo hN
    go_enter Try.func142, Try.ntmps142
    go_wp2_with (at_builtin; refine wpList_appendLE rfl (.tmp 10) (.tmp 12) rfl lo w.heap.size A n c ls lo2 w.heap.size F nf cf bs rfl rfl HE.out HF.out HLO.out.1 HAP.out (Nat.le_refl _) (Nat.le_refl _) HLO.out.2 hn ?_
                 intro A4 c4 w4 he4 hat4 hg4 hb4
                 have HE4 := Lib.hid he4
                 have HB4 := Lib.hid hb4
                 clear he4 hat4 hg4 hb4)
    go_ret
    first | exact ⟨A4, n + 1, c4, _, rfl, HE4.out, fun j hj => snE_lt E _ hj, HB4.out⟩ | exact ⟨A4, n + 1, c4, rfl, _, HE4.out, fun j hj => snE_lt E _ hj, HB4.out⟩
  | succ r ih =>
    intro ri d E A n c ls F nf cf bs w lo lo2 hri hE hF hap hlo2 hlo hN hnb hd
    rw [shapesU_succ, List.length_cons] at hN
    rw [shapesU_succ]
    have hn : n ≤ 1099511627776 := by omega
    have hr0 : (ri == 0) = false := by simp; omega
    have hr1 : IntKind.i64.wrap (ri - 1) = ri - 1 := IntWalk.i64_in _ (by omega)
    have HRI := Lib.hid hri
    have HIH := Lib.hid ih
    have HLN := Lib.hid hE.1
    have HFN := Lib.hid hF.len
    have HN := Lib.hid hN
    have HE := Lib.hid hE
    have HF := Lib.hid hF
    have HAP := Lib.hid hap
    have HLO := Lib.hid (And.intro hlo2 hlo)
    clear hE hF hap hlo2 hlo hN ih hri
    go_enter Try.func142, Try.ntmps142
    go_wp2_with (at_builtin; refine wpList_appendLE rfl (.tmp 10) (.tmp 12) rfl lo w.heap.size A n c ls lo2 w.heap.size F nf cf bs rfl rfl HE.out HF.out HLO.out.1 HAP.out (Nat.le_refl _) (Nat.le_refl _) HLO.out.2 hn ?_
                 intro A4 c4 w4 he4 hat4 hg4 hb4
                 have HE4 := Lib.hid he4
                 have HB4 := Lib.hid hb4
                 clear he4 hat4 hg4 hb4)
    go_loopw [3, 9] (fun sv lv wr => ∃ (i x : Nat) (Ai : Option Addr) (ni ci : Nat) (Ei : Nat → Sv), i ≤ d ∧ x = i + 1 ∧ lv = .int .i64 x ∧ sv = .slice Ai ni ci ∧ OwnLE Ei wr lo wr.heap.size Ai ni ci (ls ++ preL bs ([] :: shapesP r i)) ∧ (∀ j, j < n + 1 → Ei j = snE E n (F, nf, cf) j) ∧ Below lo w wr)
      (fun _ lv _ => d + 1 - (intOf lv).toNat)
    case atStart => exact ⟨0, 1, A4, n + 1, c4, _, Nat.zero_le _, rfl, rfl, rfl, by rw [preL_cons]; exact HE4.out, fun j _ => rfl, HB4.out⟩
    case round =>
      obtain ⟨i, x, Ai, ni, ci, Ei, hi, hx, rfl, rfl, hE, hS, hB⟩ := hrel
      have HEI := Lib.hid hE
      have HSE := Lib.hid hS
      have HB := Lib.hid hB
      have HX := Lib.hid hx
      have hni : ni = n + 1 + (shapesP r i).length := by
        have := hE.1
        rw [List.length_append, preL_len, List.length_cons, HLN.out] at this
        omega
      have hfr : Own wr lo wr.heap.size F nf cf bs := by
        have h1 := hE.2.2.2.1 n (by omega)
        rw [hS n (by omega), snE_at] at h1
        have e : li (ls ++ preL bs ([] :: shapesP r i)) n = bs := by
          rw [preL_cons, show n = ls.length from HLN.out.symm]
          simp [li, List.getD]
        rw [e] at h1; exact h1
      have HFR := Lib.hid hfr
      clear hE hS hB hfr
      by_cases hlt : i < d
      · have hxd : (x : Int) ≤ (d : Int) := by omega
        have hlow : lo ≤ wr.heap.size := Nat.le_trans HLO.out.2 HB.out.size
        have hbound : ni + (shapesU r x).length ≤ 1099511627776 := by
          have h1 := shapesP_mono r (i := i + 1) (j := d) (by omega)
          rw [shapesP_succ, List.length_append, List.length_map] at h1
          have := HN.out
          rw [hx]; omega
        have hrm : ri - 1 = (r : Int) := by have := HRI.out; omega
        have HBD := Lib.hid (And.intro hbound (And.intro hrm hni))
        have HCL := Lib.hid (l1Ints_any F nf cf bs wr HFR.out.si (by omega))
        clear hx hbound hrm hni
        go_wp2_with (first
          | (go_at_call 170
             refine HCL.out.mono ?_
             rintro e w5 ⟨A5, n5, c5, rfl, ho5, hb5⟩
             obtain rfl : nf = n5 := by have := ho5.len; have := HFN.out; omega
             have HO5 := Lib.hid ho5
             have HB5 := Lib.hid hb5
             clear ho5 hb5)
          | (at_builtin; refine wpList_append1 rfl (.tmp 23) (.tmp 25) rfl wr.heap.size A5 nf c5 bs (x : Int) rfl rfl HO5.out HB5.out.size (by omega) ?_
             intro B' c' w2 ho2 _ hb2
             have HO2 := Lib.hid ho2
             have HB2 : Hid (Below wr.heap.size wr w2) := Lib.hid (HB5.out.trans hb2)
             clear ho2 hb2)
          | (go_at_call 142
             refine (HIH.out (ri - 1) x Ei Ai ni ci _ B' (nf + 1) c' (bs ++ [(x : Int)]) w2 lo wr.heap.size HBD.out.2.1 ((HEI.out.below HB2.out (Nat.le_refl _)).wide HB2.out.size) HO2.out (HEI.out.apart_hi HO2.out (Nat.le_refl _)) hlow (Nat.le_trans hlow HB2.out.size) HBD.out.1 (by omega) (by omega)).mono ?_
             rintro e w3 ⟨A3, n3, c3, E3, rfl, he3, hs3, hb3⟩
             have HE3 := Lib.hid he3
             have HS3 := Lib.hid hs3
             have HB3 : Hid (Below lo w w3) := Lib.hid (HB.out.trans ((HB2.out.mono hlow).trans hb3))
             clear he3 hs3 hb3))
        have HL3 : Hid ((ls ++ preL bs ([] :: shapesP r i)) ++ preL (bs ++ [(x : Int)]) (shapesU r x) = ls ++ preL bs ([] :: shapesP r (i + 1))) := Lib.hid (by
          have := HX.out
          subst this
          rw [shapesP_succ, preL_cons, preL_cons, preL_app, ← preL_snoc]
          simp)
        go_roundw
        case rel => exact ⟨i + 1, x + 1, A3, n3, c3, E3, by omega, by have := HX.out; omega, by go_num, rfl, by rw [← HL3.out]; exact HE3.out, fun j hj => (HS3.out j (by have := HBD.out.2.2; omega)).trans (HSE.out j hj), HB3.out⟩
        case measure => simp [intOf]; omega
      · obtain rfl : i = d := by omega
        have hxd : ¬ (x : Int) ≤ (i : Int) := by omega
        clear hx hni
        go_wp2
        go_ret
        first | exact ⟨Ai, ni, ci, Ei, rfl, HEI.out, fun j hj => (HSE.out j (by omega)).trans (snE_lt E _ hj), HB.out⟩ | exact ⟨Ai, ni, ci, rfl, Ei, HEI.out, fun j hj => (HSE.out j (by omega)).trans (snE_lt E _ hj), HB.out⟩
theorem Own.emptyAt {w : World} {lo : Nat} (h : lo ≤ w.heap.size) : Own (w.alloc (.cells #[] 3)) lo (w.heap.size + 1) (some ⟨w.heap.size, 0, none⟩) 0 0 [] := (Own.empty w).wide h (Nat.le_refl _)
theorem OwnLE.empty (E : Nat → Sv) (w : World) {lo : Nat} (h : lo ≤ w.heap.size) : OwnLE E (w.alloc (.cells #[] 22)) lo (w.alloc (.cells #[] 22)).heap.size (some ⟨w.heap.size, 0, none⟩) 0 0 [] :=
  ⟨rfl, World.ownsRow_lit w #[] 0 h (Nat.zero_le _) rfl, fun k hk => by simp [Value.ownBlock] at hk; simp; omega, fun j hj => absurd hj (by omega), fun j g hj => absurd hj (by omega), fun i j g _ hj => absurd hj (by omega)⟩
/-- From two empty slices, one made behind the other. -/
theorem l4ShapesNew_any (r d : Nat) (w : World) (hr : r ≤ 7) (hd : d ≤ 7) :
    Calls Try.prog 142 #[.slice (some ⟨w.heap.size, 0, none⟩) 0 0, .int .i64 r, .int .i64 d, .slice (some ⟨w.heap.size + 1, 0, none⟩) 0 0] ((w.alloc (.cells #[] 3)).alloc (.cells #[] 22)) fun e w' => FreshL w w' e (shapesU r d) := by
  have hf := shapesU_few hr hd
  have hs1 : (w.alloc (.cells #[] 3)).heap.size = w.heap.size + 1 := by simp
  have hE := OwnLE.empty (fun _ => (none, 0, 0)) (w.alloc (.cells #[] 3)) (lo := w.heap.size) (by omega)
  have hF := ((Own.emptyAt (w := w) (lo := w.heap.size) (Nat.le_refl _)).below (Below.alloc_self (w.alloc (.cells #[] 3)) (.cells #[] 22)) (by omega)).wide (Nat.le_refl _) (hi' := ((w.alloc (.cells #[] 3)).alloc (.cells #[] 22)).heap.size) (by simp)
  have hb0 : Below w.heap.size w ((w.alloc (.cells #[] 3)).alloc (.cells #[] 22)) := (Below.alloc_self w _).alloc (by omega) _
  rw [hs1] at hE
  refine (l4Shapes_any r (r : Int) d _ _ 0 0 [] _ 0 0 [] _ w.heap.size w.heap.size rfl hE hF (fun b hb => ⟨fun e => ?_, fun j hj => absurd hj (by omega)⟩) (Nat.le_refl _) (by simp; omega) (by omega) (by omega) (by omega)).mono ?_
  · simp [Value.ownBlock] at hb e; omega
  · rintro e w' ⟨A', n', c', E', rfl, hE', _, hB⟩
    rw [preL_nil, List.nil_append] at hE'
    exact ⟨A', n', c', rfl, ⟨E', hE'⟩, hb0.trans hB⟩
end Go.Proofs.Ytfaegfhbbkicgaa
