/-
  The shapes in a box, listed by the program: a slice that goes on from one beginning. Conditions: lengths below 2^40.
-/
import Derived.Test.YtfaegfhbbkicgaaApE
import Derived.Test.YtfaegfhbbkicgaaShU
import Derived.Test.YtfaegfhbbkicgaaImplA
namespace Go.Proofs.Ytfaegfhbbkicgaa
open Go.RowKit

/-- What is apart from the lists stays so. -/
structure ApK (E : Nat → Sv) (A : Option Addr) (n : Nat) (E' : Nat → Sv) (A' : Option Addr) (n' H : Nat) : Prop where
  row : ∀ g, g < H → rowB A ≠ some g → rowB A' ≠ some g
  each : ∀ g, g < H → Apart E A n g → Apart E' A' n' g
/-- All old blocks but two are as they were. -/
structure RestB (r1 r2 : Option Nat) (w w' : World) : Prop where
  os : w'.os = w.os
  tape : w'.tape = w.tape
  output : w'.output = w.output
  size : w.heap.size ≤ w'.heap.size
  block : ∀ k, k < w.heap.size → r1 ≠ some k → r2 ≠ some k → w'.heap[k]? = w.heap[k]?
theorem RestB.trans {r1 r2 s1 s2 : Option Nat} {w w1 w2 : World} (h : RestB r1 r2 w w1) (h' : RestB s1 s2 w1 w2) (hk : ∀ k, k < w.heap.size → r1 ≠ some k → r2 ≠ some k → s1 ≠ some k ∧ s2 ≠ some k) : RestB r1 r2 w w2 :=
  ⟨h'.os.trans h.os, h'.tape.trans h.tape, h'.output.trans h.output, Nat.le_trans h.size h'.size, fun k hlt h1 h2 => (h'.block k (Nat.lt_of_lt_of_le hlt h.size) (hk k hlt h1 h2).1 (hk k hlt h1 h2).2).trans (h.block k hlt h1 h2)⟩
theorem RestB.of_grown {r1 : Option Nat} {w w1 : World} (h : w.grownBy w1 r1) (r2 : Option Nat) : RestB r1 r2 w w1 := ⟨h.os, h.tape, h.output, h.size, fun k hk h1 _ => h.block k hk (fun e => h1 e.symm)⟩
theorem RestB.below {r1 r2 : Option Nat} {B : Nat} {w w1 : World} (h : RestB r1 r2 w w1) (hB : B ≤ w.heap.size) (h1 : ∀ k, r1 = some k → B ≤ k) (h2 : ∀ k, r2 = some k → B ≤ k) : Below B w w1 :=
  ⟨h.os, h.tape, h.output, h.size, fun k hk => h.block k (by omega) (fun e => by have := h1 k e; omega) (fun e => by have := h2 k e; omega)⟩
theorem OwnLE.apart_new {E : Nat → Sv} {w : World} {lo hi n c : Nat} {A : Option Addr} {ls : List (List Int)} (h : OwnLE E w lo hi A n c ls) {g : Nat} (hg : hi ≤ g) : Apart E A n g := by
  obtain ⟨h1, h2, h3, h4, h5, h6⟩ := h
  refine ⟨fun e => ?_, fun j hj e => ?_⟩
  · have := h3 g (by rw [ownB]; exact e); omega
  · have := (h4 j hj).lt g e; omega
theorem OwnLE.row_lt {E : Nat → Sv} {w : World} {lo hi n c : Nat} {A : Option Addr} {ls : List (List Int)} (h : OwnLE E w lo hi A n c ls) {g : Nat} (hg : rowB A = some g) : lo ≤ g ∧ g < hi :=
  ⟨(h.2.1.lt g (by rw [ownB]; exact hg)).1, h.2.2.1 g (by rw [ownB]; exact hg)⟩
theorem Own.row_lt {w : World} {lo hi n c : Nat} {A : Option Addr} {xs : List Int} (h : Own w lo hi A n c xs) {g : Nat} (hg : rowB A = some g) : lo ≤ g ∧ g < hi := h.lt g (by rw [ownB]; exact hg)
section
variable {E Ei E3 : Nat → Sv} {w w1 w2 w3 w4 wr : World} {lo hiB n c nb cb n3 c3 ni ci c' : Nat} {A A3 A4 Ai B B' : Option Addr} {ss : List (List Int)} {bs : List Int} {x : Int} {r i : Nat}
/-- Behind the first one. -/
theorem shp_first (hE : OwnLE E w lo w.heap.size A n c ss) (hB : Own w lo hiB B nb cb bs) (hhi : hiB ≤ w.heap.size) (hap : ∀ g, rowB B = some g → Apart E A n g) (hO3 : Own w1 w.heap.size w1.heap.size A3 n3 c3 bs)
    (hB3 : Below w.heap.size w w1) (hat : rowB A4 = rowB A ∨ ∃ g, rowB A4 = some g ∧ w1.heap.size ≤ g) (hg4 : w1.grownBy w4 (rowB A)) :
    Own w4 lo hiB B nb cb bs ∧ RestB (rowB A) (rowB B) w w4 ∧ ApK E A n (snE E n (A3, n3, c3)) A4 (n + 1) w.heap.size := by
  have hs := hB3.size
  have hrow : ∀ g, g < w.heap.size → rowB A ≠ some g → rowB A4 ≠ some g := fun g hg hne e => by
    rcases hat with h | ⟨g', h, hlt⟩
    · exact hne (h ▸ e)
    · rw [h] at e; injection e with e; omega
  refine ⟨?_, ?_, hrow, fun g hg hx => ⟨hrow g hg hx.1, fun j hj => ?_⟩⟩
  · exact (hB.below hB3 hhi).kept hg4 (fun b hb e => (hap b (by rw [← ownB B nb cb]; exact hb)).1 e)
  · exact RestB.trans (r1 := rowB A) (r2 := rowB B) ⟨hB3.os, hB3.tape, hB3.output, hB3.size, fun k hk _ _ => hB3.block k hk⟩ (RestB.of_grown hg4 (rowB B)) (fun k _ h1 h2 => ⟨h1, h2⟩)
  · by_cases e : j = n
    · subst e
      rw [snE_at]
      intro h
      have := hO3.lt g h
      omega
    · rw [snE_lt E _ (by omega)]; exact hx.2 j (by omega)
/-- Before the next call. -/
theorem shp_mid (hap : ∀ g, rowB B = some g → Apart E A n g) (hhi : hiB ≤ w.heap.size) (hB : Own wr lo hiB B nb cb bs) (hE : OwnLE Ei wr lo wr.heap.size Ai ni ci ss) (hK : ApK E A n Ei Ai ni w.heap.size)
    (hg : wr.grownBy w2 (rowB B)) (hat : (B' = B ∧ c' = cb) ∨ ∃ g, B' = some ⟨g, 0, none⟩ ∧ wr.heap.size ≤ g ∧ wr.grownBy w2 none) :
    OwnLE Ei w2 lo w2.heap.size Ai ni ci ss ∧ ∀ g, rowB B' = some g → Apart Ei Ai ni g := by
  have hBA : ∀ g, rowB B = some g → Apart Ei Ai ni g := fun g e => hK.each g (by have := hB.row_lt e; omega) (hap g e)
  refine ⟨(hE.apart hg hBA).wide hg.size, fun g e => ?_⟩
  rcases hat with ⟨h, _⟩ | ⟨g', h, hlt, _⟩
  · subst h; exact hBA g e
  · subst h
    rw [rowB_some] at e; injection e with e
    exact hE.apart_new (by omega)
/-- Behind it. -/
theorem shp_next (hap : ∀ g, rowB B = some g → Apart E A n g) (hhi : hiB ≤ w.heap.size) (hR : RestB (rowB A) (rowB B) w wr) (hB : Own wr lo hiB B nb cb bs) (_hE : OwnLE Ei wr lo wr.heap.size Ai ni ci ss) (hK : ApK E A n Ei Ai ni w.heap.size)
    (hg : wr.grownBy w2 (rowB B)) (hat : (B' = B ∧ c' = cb) ∨ ∃ g, B' = some ⟨g, 0, none⟩ ∧ wr.heap.size ≤ g ∧ wr.grownBy w2 none)
    (hK3 : ApK Ei Ai ni E3 A3 n3 w2.heap.size) (hO3 : Own w3 lo w2.heap.size B' (nb + 1) c' (bs ++ [x])) (hR3 : RestB (rowB Ai) (rowB B') w2 w3) :
    ApK E A n E3 A3 n3 w.heap.size ∧ Own w3 lo hiB B nb cb bs ∧ RestB (rowB A) (rowB B) w w3 := by
  have hs1 := hR.size
  have hs2 := hg.size
  refine ⟨⟨fun g h1 h2 => hK3.row g (by omega) (hK.row g h1 h2), fun g h1 h2 => hK3.each g (by omega) (hK.each g h1 h2)⟩, ?_, ?_⟩
  · rcases hat with ⟨h, hc⟩ | ⟨g', h, hlt, hgn⟩
    · subst h; subst hc
      exact hO3.front.tight (fun g e => (hB.row_lt e).2)
    · subst h
      refine (hB.same (w' := w2) fun g e => hgn.block g (by have := hB.row_lt e; omega) (by intro h; cases h)).same fun g e => ?_
      have hl := hB.row_lt e
      refine hR3.block g (by omega) ?_ ?_
      · exact (hK.each g (by omega) (hap g e)).1
      · rw [rowB_some]; intro h; injection h with h; omega
  · refine (hR.trans (RestB.of_grown hg (rowB A)) (fun k _ h1 h2 => ⟨h2, h1⟩)).trans hR3 (fun k hk h1 h2 => ⟨hK.row k hk h1, ?_⟩)
    rcases hat with ⟨h, _⟩ | ⟨g', h, hlt, _⟩
    · subst h; exact h2
    · subst h; rw [rowB_some]; intro h; injection h with h; omega
end
set_option maxHeartbeats 1600000 in
theorem appendShapes_any (r : Nat) : ∀ (ri : Int) (d : Nat) (E : Nat → Sv) (A : Option Addr) (n c : Nat) (ss : List (List Int)) (B : Option Addr) (nb cb : Nat) (bs : List Int) (w : World) (lo hiB : Nat), ri = (r : Int) →
    OwnLE E w lo w.heap.size A n c ss → Own w lo hiB B nb cb bs → hiB ≤ w.heap.size → (∀ g, rowB B = some g → Apart E A n g) → lo ≤ w.heap.size → n + (shapesU r d).length ≤ 1099511627776 → nb + r ≤ 1099511627776 → d ≤ 1099511627776 →
    Calls Try.prog 144 #[.slice A n c, .slice B nb cb, .int .i64 ri, .int .i64 d] w fun e w' => ∃ A' n' c' E', e = .returned (.slice A' n' c') ∧ OwnLE E' w' lo w'.heap.size A' n' c' (ss ++ preL bs (shapesU r d)) ∧
      ApK E A n E' A' n' w.heap.size ∧ Own w' lo hiB B nb cb bs ∧ RestB (rowB A) (rowB B) w w' := by
  induction r with
  | zero =>
    intro ri d E A n c ss B nb cb bs w lo hiB hri hE hB hhi hap hlo hN hnb hd
    subst hri
    rw [shapesU_zero, preL_cons, show preL bs [] = [] from rfl]
    have hn : n ≤ 1099511627776 := by omega
    have HCL := Lib.hid (clone_any B nb cb bs w hB.si (fun h => by subst h; exact hB.nilcapL) (by omega))
    have HF := Lib.hid (fun (w1 w4 : World) (A3 : Option Addr) (n3 c3 : Nat) (A4 : Option Addr) h1 h2 h3 h4 => shp_first (w1 := w1) (w4 := w4) (A3 := A3) (n3 := n3) (c3 := c3) (A4 := A4) hE hB hhi hap h1 h2 h3 h4)
    have HE := Lib.hid hE
    have HLO := Lib.hid hlo
    clear hE hB hhi hap hlo hN
    go_enter Try.func144, Try.ntmps144
    go_wp2_with (first
      | (go_at_call 173; refine HCL.out.mono ?_; rintro e w1 ⟨A3, n3, c3, rfl, ho3, hb3⟩; have HO3 := Lib.hid ho3; have HB3 := Lib.hid hb3; clear ho3 hb3)
      | (at_builtin; refine wpList_appendLE rfl (.tmp 10) (.tmp 13) rfl lo w.heap.size A n c ss w.heap.size w1.heap.size A3 n3 c3 bs rfl rfl (HE.out.below HB3.out (Nat.le_refl _)) HO3.out HLO.out (HE.out.apart_hi HO3.out (Nat.le_refl _)) (Nat.le_refl _) HB3.out.size (Nat.le_trans HLO.out HB3.out.size) hn ?_
         intro A4 c4 w4 he4 hat4 hg4 hb4
         have HE4 := Lib.hid he4
         have HQ4 := Lib.hid (HF.out _ _ _ _ _ _ HO3.out HB3.out hat4 hg4)
         clear he4 hat4 hg4 hb4))
    go_ret
    first | exact ⟨A4, n + 1, c4, _, rfl, HE4.out, HQ4.out.2.2, HQ4.out.1, HQ4.out.2.1⟩ | exact ⟨A4, n + 1, c4, rfl, _, HE4.out, HQ4.out.2.2, HQ4.out.1, HQ4.out.2.1⟩
  | succ r ih =>
    intro ri d E A n c ss B nb cb bs w lo hiB hri hE hB hhi hap hlo hN hnb hd
    rw [shapesU_succ, List.length_cons] at hN
    rw [shapesU_succ]
    have hn : n ≤ 1099511627776 := by omega
    have hr0 : (ri == 0) = false := by simp; omega
    have hr1 : IntKind.i64.wrap (ri - 1) = ri - 1 := IntWalk.i64_in _ (by omega)
    have HRI := Lib.hid hri
    have HIH := Lib.hid ih
    have HLN := Lib.hid hE.1
    have HN := Lib.hid hN
    have HCL := Lib.hid (clone_any B nb cb bs w hB.si (fun h => by subst h; exact hB.nilcapL) (by omega))
    have HF := Lib.hid (fun (w1 w4 : World) (A3 : Option Addr) (n3 c3 : Nat) (A4 : Option Addr) h1 h2 h3 h4 => shp_first (w1 := w1) (w4 := w4) (A3 := A3) (n3 := n3) (c3 := c3) (A4 := A4) hE hB hhi hap h1 h2 h3 h4)
    have HE := Lib.hid hE
    have HLO := Lib.hid hlo
    have HAP := Lib.hid hap
    have HHI := Lib.hid hhi
    clear hE hB hhi hap hlo hN ih hri
    go_enter Try.func144, Try.ntmps144
    go_wp2_with (first
      | (go_at_call 173; refine HCL.out.mono ?_; rintro e w1 ⟨A3, n3, c3, rfl, ho3, hb3⟩; have HO3 := Lib.hid ho3; have HB3 := Lib.hid hb3; clear ho3 hb3)
      | (at_builtin; refine wpList_appendLE rfl (.tmp 10) (.tmp 13) rfl lo w.heap.size A n c ss w.heap.size w1.heap.size A3 n3 c3 bs rfl rfl (HE.out.below HB3.out (Nat.le_refl _)) HO3.out HLO.out (HE.out.apart_hi HO3.out (Nat.le_refl _)) (Nat.le_refl _) HB3.out.size (Nat.le_trans HLO.out HB3.out.size) hn ?_
         intro A4 c4 w4 he4 hat4 hg4 hb4
         have HE4 := Lib.hid he4
         have HQ4 := Lib.hid (HF.out _ _ _ _ _ _ HO3.out HB3.out hat4 hg4)
         clear he4 hat4 hg4 hb4))
    go_loopw [0, 9] (fun sv lv wr => ∃ (i x : Nat) (Ai : Option Addr) (ni ci : Nat) (Ei : Nat → Sv), i ≤ d ∧ x = i + 1 ∧ lv = .int .i64 x ∧ sv = .slice Ai ni ci ∧ OwnLE Ei wr lo wr.heap.size Ai ni ci (ss ++ preL bs ([] :: shapesP r i)) ∧ ApK E A n Ei Ai ni w.heap.size ∧ Own wr lo hiB B nb cb bs ∧ RestB (rowB A) (rowB B) w wr)
      (fun _ lv _ => d + 1 - (intOf lv).toNat)
    case atStart => exact ⟨0, 1, A4, n + 1, c4, _, Nat.zero_le _, rfl, rfl, rfl, by rw [preL_cons]; exact HE4.out, HQ4.out.2.2, HQ4.out.1, HQ4.out.2.1⟩
    case round =>
      obtain ⟨i, x, Ai, ni, ci, Ei, hi, hx, rfl, rfl, hE, hK, hB, hR⟩ := hrel
      have HEI := Lib.hid hE
      have HK := Lib.hid hK
      have HB := Lib.hid hB
      have HR := Lib.hid hR
      have HX := Lib.hid hx
      clear hE hK hB hR
      by_cases hlt : i < d
      · have hxd : (x : Int) ≤ (d : Int) := by omega
        have hlow : lo ≤ wr.heap.size := Nat.le_trans HLO.out HR.out.size
        have hni : ni = n + 1 + (shapesP r i).length := by
          have := HEI.out.1
          rw [List.length_append, preL_len, List.length_cons, HLN.out] at this
          omega
        have hbound : ni + (shapesU r x).length ≤ 1099511627776 := by
          have h1 := shapesP_mono r (i := i + 1) (j := d) (by omega)
          rw [shapesP_succ, List.length_append, List.length_map] at h1
          have := HN.out
          rw [hx]; omega
        have hrm : ri - 1 = (r : Int) := by have := HRI.out; omega
        have HBD := Lib.hid (And.intro hbound hrm)
        clear hx hbound hrm hni
        go_wp2_with (first
          | (at_builtin; refine wpList_append_keep rfl (.tmp 24) (.tmp 26) rfl lo hiB B nb cb bs (x : Int) rfl rfl HB.out hlow (by omega) ?_
             intro B' c' w2 ho2 hg2 hat2
             have HO2 := Lib.hid ho2
             have HG2 := Lib.hid hg2
             have HA2 := Lib.hid hat2
             have HM := Lib.hid (shp_mid HAP.out HHI.out HB.out HEI.out HK.out hg2 hat2)
             clear ho2 hg2 hat2)
          | (go_at_call 144
             refine (HIH.out (ri - 1) x Ei Ai ni ci _ B' (nb + 1) c' (bs ++ [(x : Int)]) w2 lo w2.heap.size HBD.out.2 HM.out.1 HO2.out (Nat.le_refl _) HM.out.2 (Nat.le_trans hlow HG2.out.size) HBD.out.1 (by omega) (by omega)).mono ?_
             rintro e w3 ⟨A3, n3, c3, E3, rfl, he3, hk3, ho3, hr3⟩
             have HE3 := Lib.hid he3
             have HNX := Lib.hid (shp_next HAP.out HHI.out HR.out HB.out HEI.out HK.out HG2.out HA2.out hk3 ho3 hr3)
             clear he3 hk3 ho3 hr3))
        have HL3 : Hid ((ss ++ preL bs ([] :: shapesP r i)) ++ preL (bs ++ [(x : Int)]) (shapesU r x) = ss ++ preL bs ([] :: shapesP r (i + 1))) := Lib.hid (by
          have := HX.out
          subst this
          rw [shapesP_succ, preL_cons, preL_cons, preL_app, ← preL_snoc]
          simp)
        go_roundw
        case rel => exact ⟨i + 1, x + 1, A3, n3, c3, E3, by omega, by have := HX.out; omega, by go_num, rfl, by rw [← HL3.out]; exact HE3.out, HNX.out.1, HNX.out.2.1, HNX.out.2.2⟩
        case measure => simp [intOf]; omega
      · obtain rfl : i = d := by omega
        have hxd : ¬ (x : Int) ≤ (i : Int) := by omega
        clear hx
        go_wp2
        go_ret
        first | exact ⟨Ai, ni, ci, Ei, rfl, HEI.out, HK.out, HB.out, HR.out⟩ | exact ⟨Ai, ni, ci, rfl, Ei, HEI.out, HK.out, HB.out, HR.out⟩
end Go.Proofs.Ytfaegfhbbkicgaa
