/-
  The document's keys: exponents out of a key, keys of exchanged exponents. Conditions: keys below 2^49.
-/
import Derived.Test.YtkfpacjncpifgaaGatS
import Derived.Test.YtkfpacjncpifgaaLin
import Derived.Test.YtkfpacjncpifgaaTermKey
import Derived.Laws.BitsLemmas
import Derived.Deep.RegionHeld3
namespace Go.Proofs.Ytkfpacjncpifgaa
open Go.RowKit

theorem wraps_i64_63 (n : Int) (h₀ : 0 ≤ n) (h₁ : n < 2 ^ 63) : IntKind.i64.wrap n = n := IntWalk.i64_in _ (by omega)
theorem lt7s {i : Nat} (h : i < 7) : i = 0 ∨ i = 1 ∨ i = 2 ∨ i = 3 ∨ i = 4 ∨ i = 5 ∨ i = 6 := by omega
theorem and127 (x : Int) (h0 : 0 ≤ x) (h1 : x < 9223372036854775808) : bits .and .i64 x 127 = x % 128 := by
  have h := bits_mask .i64 63 (by decide) wraps_i64_63 7 (by decide) x (by omega) (by omega)
  simpa using h
set_option maxHeartbeats 400000 in
theorem l2At_any (x : Int) (i : Nat) (hi : i < 7) (h0 : 0 ≤ x) (h1 : x < 562949953421312) (w : World) :
    Calls Try.prog 133 #[.int .i64 x, .int .i64 i] w fun e w' => e = .returned (.int .i64 (x / unitI i % 128)) ∧ w' = w := by
  go_enter Try.func133, Try.ntmps133
  rcases lt7s hi with rfl | rfl | rfl | rfl | rfl | rfl | rfl
  all_goals
    go_wp2
    go_ret
    refine ⟨ret_int ?_, rfl⟩
    rw [and127 _ (by omega) (by omega)]
    simp [unitI]
set_option maxHeartbeats 400000 in
theorem l2Unit_any (i : Nat) (hi : i < 7) (w : World) :
    Calls Try.prog 134 #[.int .i64 i] w fun e w' => e = .returned (.int .i64 (unitI i)) ∧ w' = w := by
  go_enter Try.func134, Try.ntmps134
  rcases lt7s hi with rfl | rfl | rfl | rfl | rfl | rfl | rfl
  all_goals
    go_wp2
    go_ret
    refine ⟨ret_int ?_, rfl⟩
    simp [unitI]

theorem unitI_pos {i : Nat} (h : i < 7) : 1 ≤ unitI i ∧ unitI i ≤ 4398046511104 := by
  rcases lt7s h with rfl | rfl | rfl | rfl | rfl | rfl | rfl <;> simp [unitI]
theorem mul_bnd {d U : Int} (h1 : -127 ≤ d) (h2 : d ≤ 127) (h3 : 1 ≤ U) (h4 : U ≤ 4398046511104) : -558551906910208 ≤ d * U ∧ d * U ≤ 558551906910208 := by
  have a1 := Int.mul_le_mul_of_nonneg_right h2 (show 0 ≤ U by omega)
  have a2 := Int.mul_le_mul_of_nonneg_right h1 (show 0 ≤ U by omega)
  constructor <;> omega
/-- A key with two exponents, one beside the other, exchanged. -/
def swK (x : Int) (i : Nat) : Int := x + (x / unitI (i + 1) % 128 - x / unitI i % 128) * unitI i + (x / unitI i % 128 - x / unitI (i + 1) % 128) * unitI (i + 1)
theorem l2At_at {x j : Int} (i : Nat) (hj : j = (i : Int)) (hi : i < 7) (h0 : 0 ≤ x) (h1 : x < 562949953421312) {a : Int} (ha : a = x / unitI i % 128) (w : World) :
    Calls Try.prog 133 #[.int .i64 x, .int .i64 j] w fun e w' => e = .returned (.int .i64 a) ∧ w' = w := by
  subst hj; subst ha; exact l2At_any x i hi h0 h1 w
theorem l2Unit_at {j : Int} (i : Nat) (hj : j = (i : Int)) (hi : i < 7) {U : Int} (hU : U = unitI i) (w : World) :
    Calls Try.prog 134 #[.int .i64 j] w fun e w' => e = .returned (.int .i64 U) ∧ w' = w := by
  subst hj; subst hU; exact l2Unit_any i hi w
set_option maxHeartbeats 400000 in
theorem l2Swapped_any (x : Int) (i : Nat) (hi : i < 6) (h0 : 0 ≤ x) (h1 : x < 562949953421312) (w : World) :
    Calls Try.prog 115 #[.int .i64 x, .int .i64 i] w fun e w' => e = .returned (.int .i64 (swK x i)) ∧ w' = w := by
  obtain ⟨a, ha⟩ : ∃ a, a = x / unitI i % 128 := ⟨_, rfl⟩
  obtain ⟨b, hb⟩ : ∃ b, b = x / unitI (i + 1) % 128 := ⟨_, rfl⟩
  obtain ⟨U, hU⟩ : ∃ U, U = unitI i := ⟨_, rfl⟩
  obtain ⟨V, hV⟩ : ∃ V, V = unitI (i + 1) := ⟨_, rfl⟩
  have uU := unitI_pos (i := i) (by omega)
  have uV := unitI_pos (i := i + 1) (by omega)
  rw [← hU] at uU
  rw [← hV] at uV
  have hab : 0 ≤ a ∧ a ≤ 127 := by rw [ha]; omega
  have hbb : 0 ≤ b ∧ b ≤ 127 := by rw [hb]; omega
  have m1 := mul_bnd (d := b - a) (U := U) (by omega) (by omega) uU.1 uU.2
  have m2 := mul_bnd (d := a - b) (U := V) (by omega) (by omega) uV.1 uV.2
  have hE : Hid (swK x i = x + (b - a) * U + (a - b) * V) := Lib.hid (by unfold swK; rw [ha, hb, hU, hV])
  have c1 := fun w => l2At_at (x := x) (j := (i : Int)) i rfl (by omega) h0 h1 ha w
  have c2 := fun w => l2At_at (x := x) (j := (i : Int) + 1) (i + 1) (by omega) (by omega) h0 h1 hb w
  have c3 := fun w => l2Unit_at (j := (i : Int)) i rfl (by omega) hU w
  have c4 := fun w => l2Unit_at (j := (i : Int) + 1) (i + 1) (by omega) (by omega) hV w
  have hw0 : IntKind.i64.wrap ((i : Int) + 1) = (i : Int) + 1 := IntWalk.i64_in _ (by omega)
  have hw1 : IntKind.i64.wrap (b - a) = b - a := IntWalk.i64_in _ (by omega)
  have hw2 : IntKind.i64.wrap (a - b) = a - b := IntWalk.i64_in _ (by omega)
  have hw3 : IntKind.i64.wrap ((b - a) * U) = (b - a) * U := IntWalk.i64_in _ (by omega)
  have hw4 : IntKind.i64.wrap ((a - b) * V) = (a - b) * V := IntWalk.i64_in _ (by omega)
  have hw5 : IntKind.i64.wrap (x + (b - a) * U) = x + (b - a) * U := IntWalk.i64_in _ (by omega)
  have hw6 : IntKind.i64.wrap (x + (b - a) * U + (a - b) * V) = x + (b - a) * U + (a - b) * V := IntWalk.i64_in _ (by omega)
  have C1 := Lib.hid c1
  have C2 := Lib.hid c2
  have C3 := Lib.hid c3
  have C4 := Lib.hid c4
  clear c1 c2 c3 c4 ha hb hU hV
  go_enter Try.func115, Try.ntmps115
  go_wp2_with (first
    | (go_at_call 133; first | (with_reducible refine (C1.out _).mono ?_; rintro e w1 ⟨rfl, rfl⟩) | (with_reducible refine (C2.out _).mono ?_; rintro e w1 ⟨rfl, rfl⟩))
    | (go_at_call 134; first | (with_reducible refine (C3.out _).mono ?_; rintro e w1 ⟨rfl, rfl⟩) | (with_reducible refine (C4.out _).mono ?_; rintro e w1 ⟨rfl, rfl⟩)))
  go_ret
  exact ⟨ret_int hE.out.symm, rfl⟩

/-- Keys that 49 bits hold. -/
def in49 (x : Int) : Prop := 0 ≤ x ∧ x < 562949953421312
theorem ce_mem {l : List Ce} {k : Nat} (h : k < l.length) : ce l k ∈ l := by rw [ce_get h]; exact List.getElem_mem h
theorem take_ce {l : List Ce} {k : Nat} (h : k < l.length) : l.take (k + 1) = l.take k ++ [ce l k] := by rw [List.take_succ_eq_append_getElem h, ce_get h]
theorem map_take_ce {l : List Ce} {f : Ce → Ce} {k : Nat} (h : k < l.length) : (l.take (k + 1)).map f = (l.take k).map f ++ [f (ce l k)] := by rw [take_ce h]; simp
/-- 'out = append(out, l2Mon{..})' in a region that draws. -/
theorem step_appendM (w : World) {ops : Array Oper} {o : Oper} {a : Act} {K : Act → World → Prop} {Q : Exit → Act → World → Prop} {E0 : Prop} (hgd : o.guard = none) (s x : Operand)
    (ho : o.op = .call { callee := .builtin .append, args := #[s, x], argTypes := #[65, 65] })
    (lo hi : Nat) (A : Option Addr) (n c : Nat) (cs : List Ce) (p q : Int) (nb : Nat) (hs : a.eval s = .slice A n c) (hx : a.eval x = .slice (some ⟨nb, 0, none⟩) 1 1) (hblk : Blk w nb 108 #[.int .i64 p, .int .i64 q])
    (hown : OwnM w lo hi A n c cs) (hlo : lo ≤ w.heap.size) (hn : n ≤ 1099511627776)
    (h : ∀ A' c' w', OwnM w' lo w'.heap.size A' (n + 1) c' (cs ++ [(p, q)]) → Below lo w w' → K (a.put o.dst (.slice A' (n + 1) c')) w') :
    if Region.wanted o (yielded ops a.tmps) = true then Oper.wp Try.prog o a w K Q else E0 := by
  obtain ⟨i0, hi0, hz0, hz1, hz2⟩ := info_parts Try.infoMonZ
  refine step_append_lies w hgd s x 65 ho lo 108 i0 (.agg #[.int .i64 0, .int .i64 0]) 2 16 Try.underlying65 hi0 hz0 hz1 hz2 rfl (by decide) _ n _ hs hown.2.1 ⟨nb, 0, none⟩ 1 1 [.int .i64 p, .int .i64 q] hx rfl
    (World.news_of_block hblk) (by intro u hu; simp at hu; rcases hu with rfl | rfl <;> rfl) (by omega) (by unfold maxLen; omega) (by omega) hlo w.heap.size rfl ?_
  intro g cap w1 ho1 hg1 _ hlt
  rw [cells2_app] at ho1
  refine h _ _ w1 ⟨by simp [hown.1], rowm_eq ho1 (cells2_congr fun j hj => ?_), fun k hk => (ho1.lt k hk).2⟩ (grow_below hg1 hlo (fun k hk => (hown.2.1.lt k hk).1))
  unfold cv
  by_cases e : j = n
  · subst e
    rw [if_pos rfl]
    have := @ce_app_at cs (p, q)
    rw [hown.1] at this
    rw [this]
  · rw [if_neg e, ce_app_lt (by rw [hown.1]; omega)]
set_option maxRecDepth 100000 in
set_option maxHeartbeats 1000000 in
theorem l2Swap_any (A : Option Addr) (n c : Nat) (l : List Mn) (i : Nat) (w : World) (hs : MS w A n l) (hn : n ≤ 1000000000) (hi : i < 6) (h49 : ∀ t ∈ l, in49 t.1) (h64 : ∀ t ∈ l, in64 t.2) :
    Calls Try.prog 61 #[.slice A n c, .int .i64 i] w fun e w' => FreshM w w' e (gatherL (l.map fun t => (swK t.1 i, t.2))) := by
  have HL := Lib.hid hs.1
  have H49 := Lib.hid h49
  have H64 := Lib.hid h64
  clear h49 h64
  obtain ⟨B, hB⟩ : ∃ B, B = w.heap.size := ⟨_, rfl⟩
  have HB0 : Hid (B = w.heap.size) := Lib.hid hB
  have HO5 : Hid (OwnM (w.alloc (.cells #[] 108)) B (w.alloc (.cells #[] 108)).heap.size (some ⟨B, 0, none⟩) 0 0 []) := Lib.hid (by rw [hB]; simpa using OwnM.empty w)
  have HB5 : Hid (Below B w (w.alloc (.cells #[] 108))) := Lib.hid (by rw [hB]; exact (Below.refl _ _).alloc (Nat.le_refl _) _)
  have HZ5 : Hid (B ≤ (w.alloc (.cells #[] 108)).heap.size) := Lib.hid (by rw [hB]; simp)
  go_enter Try.func61, Try.ntmps61
  go_wp2_with fail
  rw [← hB]
  clear hB
  go_loopw [5, 6] (fun lf k wx => ∃ A5 c5 kk, lf = .slice A5 kk c5 ∧ k = .int .i64 (kk : Nat) ∧ kk ≤ n ∧ OwnM wx B wx.heap.size A5 kk c5 ((l.take kk).map fun t => (swK t.1 i, t.2)) ∧ Below B w wx ∧ B ≤ wx.heap.size)
    (fun _ k _ => n - (intOf k).toNat)
  case atStart => exact ⟨_, 0, 0, rfl, rfl, Nat.zero_le _, by simpa using HO5.out, HB5.out, HZ5.out⟩
  case round =>
    obtain ⟨A5, c5, k, rfl, rfl, hk, ho5, hb5, hz5⟩ := hrel
    clear HO5 HB5 HZ5
    have HO5 := Lib.hid ho5
    have HB5 := Lib.hid hb5
    have HZ5 := Lib.hid hz5
    have hsr := hs.below hb5 (by rw [← HB0.out]; exact Nat.le_refl _)
    have hs0 := hs
    clear ho5 hb5 hz5 hs
    by_cases hlt : k < n
    · have hltI : (k : Int) < (n : Int) := by omega
      have HNX := Lib.hid (map_take_ce (f := fun t => (swK t.1 i, t.2)) (l := l) (k := k) (by rw [HL.out]; exact hlt))
      have h49 := H49.out _ (ce_mem (l := l) (k := k) (by rw [HL.out]; exact hlt))
      obtain ⟨b, o, rfl, hb, hi0, hi1⟩ := hsr.at_ (k := k) hlt
      have hbw : b < B := by
        obtain ⟨b2, o2, e2, hb2, _⟩ := hs0.at_ (k := k) hlt
        simp only [Option.some.injEq, Addr.mk.injEq, and_true] at e2
        rw [HB0.out, e2.1]; exact hb2
      clear hs0
      obtain ⟨p1, hp1⟩ : ∃ p1, p1 = (ce l k).1 := ⟨_, rfl⟩
      obtain ⟨q1, hq1⟩ : ∃ q1, q1 = (ce l k).2 := ⟨_, rfl⟩
      rw [← hp1] at hi0 h49
      rw [← hq1] at hi1
      have HPQ : Hid (ce l k = (p1, q1)) := Lib.hid (by rw [hp1, hq1])
      have CA : ∀ w, Calls Try.prog 115 #[.int .i64 p1, .int .i64 i] w fun e w' => e = .returned (.int .i64 (swK p1 i)) ∧ Hid (w' = w) := fun w => (l2Swapped_any p1 i hi h49.1 h49.2 w).mono fun _ _ ⟨h1, h2⟩ => ⟨h1, Lib.hid h2⟩
      obtain ⟨z, hz⟩ : ∃ z, z = swK p1 i := ⟨_, rfl⟩
      rw [← hz] at CA
      have HZ := Lib.hid hz
      have HCA := Lib.hid CA
      have HK : Hid (b < B) := Lib.hid hbw
      clear hsr hp1 hq1 hb h49 CA hz hbw
      have A3 : ∀ w3, Hid (w3 = wr.drew) → (w3.cell? ⟨b, o + k * 2, none⟩ = some (.int .i64 p1) ∧ w3.cell? ⟨b, o + k * 2 + 1, none⟩ = some (.int .i64 q1)) ∧ Hid (OwnM w3 B w3.heap.size A5 k c5 ((l.take k).map fun t => (swK t.1 i, t.2))) ∧ Hid (Below B w w3) ∧ Hid (B ≤ w3.heap.size) := by
        intro w3 h
        rw [h.out]
        exact ⟨⟨hi0, hi1⟩, Lib.hid (HO5.out.drawn ⟨1, rfl⟩), Lib.hid (HB5.out.drawnN 1), Lib.hid HZ5.out⟩
      have HA3 := Lib.hid A3
      clear A3
      go_wp2_with fail
      go_region_held3 (fun w' => w'.cell? ⟨b, o + k * 2, none⟩ = some (.int .i64 p1) ∧ w'.cell? ⟨b, o + k * 2 + 1, none⟩ = some (.int .i64 q1))
        (first | go_keep | exact K3 | exact K5)
        (first
          | (go_at_call 115
             with_reducible refine (HCA.out _).mono ?_
             rintro r3 w3 ⟨rfl, hw3⟩
             obtain ⟨K3, HO3, HB3, HZ3⟩ := HA3.out w3 hw3)
          | (refine step_appendM _ (by rfl) (.tmp 14) (.tmp 28) (by rfl) B w3.heap.size A5 k c5 ((l.take k).map fun t => (swK t.1 i, t.2)) z q1 w3.heap.size (by rfl) (by rfl) (Blk.new w3 _ _) (HO3.out.below ((Below.refl w3.heap.size w3).alloc (Nat.le_refl _) _) (Nat.le_refl _)) (by have := HZ3.out; simp; omega) (by omega) ?_
             intro A6 c6 w6 ho6 hb6
             have K5 : w6.cell? ⟨b, o + k * 2, none⟩ = some (.int .i64 p1) ∧ w6.cell? ⟨b, o + k * 2 + 1, none⟩ = some (.int .i64 q1) := by
               have g3 := ((Below.refl B w3).alloc HZ3.out (.cells #[.int .i64 z, .int .i64 q1] 108)).trans hb6
               exact ⟨(Below.cell g3 (p := ⟨b, o + k * 2, none⟩) HK.out).trans K3.1, (Below.cell g3 (p := ⟨b, o + k * 2 + 1, none⟩) HK.out).trans K3.2⟩
             have HO6 := Lib.hid ho6
             have HB6 : Hid (Below B w w6) := Lib.hid ((HB3.out.alloc HZ3.out _).trans hb6)
             have HZ6 : Hid (B ≤ w6.heap.size) := Lib.hid (Nat.le_trans HZ3.out (Nat.le_trans (by simp) hb6.size))
             clear ho6 hb6))
      go_wp2
      go_roundw
      case rel => exact ⟨A6, c6, k + 1, rfl, by go_num, by omega, by rw [HNX.out, HPQ.out, ← HZ.out]; exact HO6.out, HB6.out, HZ6.out⟩
      case measure => simp [intOf]; omega
    · have hkn : k = n := by omega
      subst hkn
      have HOL : Hid (OwnM wr B wr.heap.size A5 k c5 (l.map fun t => (swK t.1 i, t.2))) := Lib.hid (by have := HO5.out; rwa [List.take_of_length_le (by rw [HL.out]; omega)] at this)
      have HG := Lib.hid (specGather_any A5 k c5 _ wr HOL.out.si hn (fun t ht => by
        obtain ⟨u, hu, rfl⟩ := List.mem_map.1 ht
        exact H64.out u hu))
      go_wp2_with (go_at_call 116; refine HG.out.mono ?_; rintro e w7 ⟨A7, n7, c7, rfl, ho7, hb7⟩; have HO7 := Lib.hid ho7; have HB7 := Lib.hid hb7; clear ho7 hb7)
      go_ret
      exact ⟨A7, n7, c7, rfl, HO7.out.wide (by rw [← HB0.out]; exact HZ5.out) (Nat.le_refl _), by rw [← HB0.out]; exact HB5.out.trans (HB7.out.mono HZ5.out)⟩
end Go.Proofs.Ytkfpacjncpifgaa
