/-
  Texts RdB to CrnS, merged. Conditions: as each says.
-/
import Derived.Deep.Cut
import Derived.Deep.AppendLies
import Derived.Lib.AppendZerosOnto
import Derived.ProofKit
import Derived.OpenShut
import Derived.ChangeOld
import Derived.BigRegion
import Derived.Test.YtdepalpkcmfegaaPkA2
/-
  The reduction on the document's side, in memory. Conditions: the modulus is 2, 3, 5 or 7; sizes at most 14.
-/


namespace Go.Proofs.Ytdepalpkcmfegaa
open Go.RowKit

/-- Where a reduction stands, in memory. -/
structure RS (w0 wr : World) (g s1 s2 : Nat) (p : Int) (R C : Nat) (A A4 : Option Addr) (n k kd : Nat) (d : List Int) (Ap : Option Addr) (np cp : Nat) (ps : List Int) : Prop where
  b1 : Blk wr g 26 #[.int .i64 p, .int .i64 R, .int .i64 C, .slice A n k]
  b2 : Blk wr (g + 1) 26 #[.int .i64 0, .int .i64 0, .int .i64 0, .slice none 0 0]
  b4 : Blk wr s2 26 #[.int .i64 p, .int .i64 R, .int .i64 C, .slice A4 n kd]
  od : Own wr s1 s2 A4 n kd d
  op : Own wr (s2 + 1) wr.heap.size Ap np cp ps
  ord : g + 1 < s1 ∧ s1 ≤ s2 ∧ s2 < wr.heap.size
  be : Below g w0 wr
section
variable {w0 wr w' : World} {g s1 s2 : Nat} {p : Int} {R C : Nat} {A A4 : Option Addr} {n k kd : Nat} {d : List Int} {Ap : Option Addr} {np cp : Nat} {ps : List Int}
theorem RS.below (h : RS w0 wr g s1 s2 p R C A A4 n k kd d Ap np cp ps) (hb : Below wr.heap.size wr w') : RS w0 w' g s1 s2 p R C A A4 n k kd d Ap np cp ps := by
  obtain ⟨b1, b2, b4, od, op, ord, be⟩ := h
  have hz := hb.size
  exact ⟨b1.below hb b1.lt, b2.below hb b2.lt, b4.below hb b4.lt, od.below hb (by omega), (op.below hb (Nat.le_refl _)).wide (Nat.le_refl _) hz, by omega, be.trans (hb.mono (by omega))⟩
theorem RS.put {gd : Nat} (h : RS w0 wr g s1 s2 p R C A (some ⟨gd, 0, none⟩) n k kd d Ap np cp ps) (q : Nat) (v : Int) : RS w0 (wr.setCell ⟨gd, q, none⟩ (.int .i64 v)) g s1 s2 p R C A (some ⟨gd, 0, none⟩) n k kd (d.set q v) Ap np cp ps := by
  obtain ⟨b1, b2, b4, od, op, ord, be⟩ := h
  have hl := od.lt gd rfl
  obtain ⟨h1, hg⟩ := od.set_ (k := q) v
  have hz := hg.size
  exact ⟨b1.grown hg (fun e => by injection e with e; omega), b2.grown hg (fun e => by injection e with e; omega), b4.grown hg (fun e => by injection e with e; omega), h1, (op.grown hg (fun z hz => by injection hz with hz; omega)).wide (Nat.le_refl _) hz, by omega, be.grown hg (by omega) (by rintro z ⟨⟩; omega)⟩
theorem RS.s7 (h : RS w0 wr g s1 s2 p R C A A4 n k kd d Ap np cp ps) : wr.cell? ⟨g, 0, none⟩ = some (.int .i64 p) ∧ wr.cell? ⟨g, 1, none⟩ = some (.int .i64 R) ∧ wr.cell? ⟨g, 2, none⟩ = some (.int .i64 C) ∧ wr.cell? ⟨s2, 0, none⟩ = some (.int .i64 p) ∧ wr.cell? ⟨s2, 1, none⟩ = some (.int .i64 R) ∧ wr.cell? ⟨s2, 2, none⟩ = some (.int .i64 C) ∧ wr.cell? ⟨s2, 3, none⟩ = some (.slice A4 n kd) :=
  ⟨h.b1.cell 0, h.b1.cell 1, h.b1.cell 2, h.b4.cell 0, h.b4.cell 1, h.b4.cell 2, h.b4.cell 3⟩
/-- A number of the matrix, read in a world that came of this one. -/
theorem RS.at_ (h : RS w0 wr g s1 s2 p R C A A4 n k kd d Ap np cp ps) {M : Nat → Nat → Int} (hd : DM d R C M) (hR : R ≤ 14) (hC : C ≤ 14) {i c : Nat} (hi : i < R) (hc : c < C) (v : Int) (hv : M i c = v) (w' : World) (hb : Below wr.heap.size wr w') :
    Calls Try.prog 63 #[.agg #[.int .i64 p, .int .i64 R, .int .i64 C, .slice A4 n kd], .int .i64 i, .int .i64 c] w' fun e w2 => e = .returned (.int .i64 v) ∧ Below w'.heap.size w' w2 :=
  l7At_any p R A4 n kd C i c d v w' ((h.od.below hb (by have := h.ord; omega)).si) hC (by omega) (by omega) (by have := h.od.len; have h1 := hd.1; have h2 := idx_lt hi hc; omega) (by rw [hd.2 i c hi hc]; exact hv)
theorem RS.app (h : RS w0 wr g s1 s2 p R C A A4 n k kd d Ap np cp ps) {row : Option Nat} (hg : wr.grownBy w' row) (hr : row = (Value.slice Ap np cp).ownBlock) {A' : Option Addr} {c' : Nat} {qs : List Int} {m : Nat} (ho : Own w' (s2 + 1) w'.heap.size A' m c' qs) :
    RS w0 w' g s1 s2 p R C A A4 n k kd d A' m c' qs := by
  obtain ⟨b1, b2, b4, od, op, ord, be⟩ := h
  have hz := hg.size
  have hlt : ∀ q, row = some q → s2 + 1 ≤ q := fun q hq => (op.lt q (by rw [← hr]; exact hq)).1
  exact ⟨b1.grown hg (fun e => by have := hlt g e.symm; omega), b2.grown hg (fun e => by have := hlt _ e.symm; omega), b4.grown hg (fun e => by have := hlt _ e.symm; omega), od.grown hg (fun q hq => by have := hlt q hq; omega), ho, by omega, be.grown hg (by omega) (fun q hq => by have := hlt q hq; omega)⟩
theorem RS.mcell {gd : Nat} (h : RS w0 wr g s1 s2 p R C A (some ⟨gd, 0, none⟩) n k kd d Ap np cp ps) {q : Nat} (hq : q < n) : wr.cell? ⟨gd, q, none⟩ = some (.int .i64 (nth d q)) ∧ wr.frozen? ⟨gd, q, none⟩ = false := ⟨h.od.cellAt hq, h.od.frozenAt q⟩
end
theorem idx_wraps {i C q : Nat} (hi : i ≤ 14) (hC : C ≤ 14) (hq : q ≤ 14) : ∃ N m : Nat, IntKind.i64.wrap ((i : Int) * (C : Int)) = (N : Int) ∧ IntKind.i64.wrap ((N : Int) + (q : Int)) = (m : Int) ∧ m = i * C + q := by
  have h := nat_mul_small hi hC
  exact ⟨i * C, i * C + q, wrap_mul_nat rfl (by omega), by rw [Int.natCast_add]; exact IntWalk.i64_in _ (by omega), rfl⟩
/-- What a reduction leaves. -/
def RedRes (p : Int) (R C : Nat) (M0 : Nat → Nat → Int) (w w' : World) (A' : Option Addr) (n k' : Nat) (Ap : Option Addr) (np cp : Nat) : Prop :=
  ∃ d M ps j, Own w' w.heap.size w'.heap.size A' n k' d ∧ Own w' w.heap.size w'.heap.size Ap np cp ps ∧ DM d R C M ∧ RedI p C R M0 M ps j ∧ j ≤ C ∧ (j = C ∨ ps.length = R) ∧ Below w.heap.size w w'
theorem results_mx_tmp {P : Program} {fn : Func} {p q : Tmp} {ty : TypeId} (h : fn.results = #[.cell p ty, .tmp q]) (tmps : Array Value) (w : World) (g : Nat) (t : TypeId) (cs : Array Value) (d : TypeDesc)
    (hp : tmps.getD p undef = .pointer (some ⟨g, 0, none⟩)) (hg : Blk w g t cs) (hu : P.underlying ty = some d) (hd : (match d with | .struct _ | .array _ _ => true | _ => false) = true) (hi : (P.info? ty).map (·.size) = some cs.size) :
    (results fn tmps).run P w = .ok (.tuple #[.agg cs, tmps.getD q undef]) w := by
  have hp' : tmps[p]?.getD undef = .pointer (some ⟨g, 0, none⟩) := by simpa using hp
  simp [results, h, hp', asAddr, run_loadVar_row w g t ty cs (0, 0) d hg hu hd hi]
/-- Exchanged as far as a column; scaled as far as a column; cleared as far as a row and a column. -/
def swK (M : Nat → Nat → Int) (a b k : Nat) : Nat → Nat → Int := fun i c => if c < k then swM M a b i c else M i c
def scK (p : Int) (M : Nat → Nat → Int) (r : Nat) (f : Int) (k : Nat) : Nat → Nat → Int := fun i c => if c < k then scM p M r f i c else M i c
def clK (p : Int) (M : Nat → Nat → Int) (r j i0 k : Nat) : Nat → Nat → Int := fun i c => if i < i0 ∨ i = i0 ∧ c < k then clM p M r j i c else M i c
theorem swK_step {M : Nat → Nat → Int} {a b k : Nat} (i c : Nat) : updM (updM (swK M a b k) a k (M b k)) b k (M a k) i c = swK M a b (k + 1) i c := by
  unfold updM swK swM
  by_cases hc : c = k
  · subst hc
    by_cases h1 : i = b
    · subst h1
      by_cases h2 : i = a
      · subst h2; simp
      · simp [h2]
    · by_cases h2 : i = a
      · subst h2; simp [h1]
      · simp [h1, h2]
  · have e1 : (c < k + 1) ↔ c < k := by omega
    simp [hc, e1]
theorem scK_step {p : Int} {M : Nat → Nat → Int} {r k : Nat} {f : Int} (i c : Nat) : updM (scK p M r f k) r k (M r k * f % p) i c = scK p M r f (k + 1) i c := by
  unfold updM scK scM
  by_cases hc : c = k
  · subst hc
    by_cases h1 : i = r
    · simp [h1]
    · simp [h1]
  · have e1 : (c < k + 1) ↔ c < k := by omega
    simp [hc, e1]
theorem clK_step {p : Int} {M : Nat → Nat → Int} {r j i0 k : Nat} (h : i0 ≠ r) (i c : Nat) : updM (clK p M r j i0 k) i0 k ((M i0 k + (p - M i0 j) * M r k) % p) i c = clK p M r j i0 (k + 1) i c := by
  unfold updM clK
  by_cases hc : i = i0 ∧ c = k
  · obtain ⟨rfl, rfl⟩ := hc
    rw [if_pos ⟨rfl, rfl⟩, if_pos (Or.inr ⟨rfl, by omega⟩)]
    simp [clM, h]
  · rw [if_neg hc]
    by_cases h1 : i < i0 ∨ i = i0 ∧ c < k
    · rw [if_pos h1, if_pos (by omega)]
    · rw [if_neg h1, if_neg (by omega)]
theorem clK_row {p : Int} {M : Nat → Nat → Int} {r j i0 C : Nat} (i c : Nat) (hc : c < C) : clK p M r j i0 C i c = clK p M r j (i0 + 1) 0 i c := by
  unfold clK
  by_cases h1 : i < i0 ∨ i = i0 ∧ c < C
  · rw [if_pos h1, if_pos (by omega)]
  · rw [if_neg h1, if_neg (by omega)]
theorem clK_skip {p : Int} {M : Nat → Nat → Int} {r j : Nat} (i c : Nat) : clK p M r j r 0 i c = clK p M r j (r + 1) 0 i c := by
  unfold clK
  by_cases h1 : i < r
  · rw [if_pos (by omega), if_pos (by omega)]
  · by_cases h2 : i = r
    · subst h2
      rw [if_neg (by omega), if_pos (by omega)]
      simp [clM]
    · rw [if_neg (by omega), if_neg (by omega)]
set_option maxRecDepth 100000 in
set_option maxHeartbeats 16000000 in
theorem l7Reduce_any (p : Int) (R C : Nat) (A : Option Addr) (n k : Nat) (xs : List Int) (M0 : Nat → Nat → Int) (w : World) (hp : P7 p) (hs : SI w A n xs) (hR : R ≤ 14) (hC : C ≤ 14) (hx : Rg p xs) (hd0 : DM xs R C M0) :
    Calls Try.prog 101 #[.agg #[.int .i64 p, .int .i64 R, .int .i64 C, .slice A n k]] w fun e w' => ∃ A' k' Ap np cp, e = .returned (.tuple #[.agg #[.int .i64 p, .int .i64 R, .int .i64 C, .slice A' n k'], .slice Ap np cp]) ∧ RedRes p R C M0 w w' A' n k' Ap np cp := by
  obtain ⟨w1, hw1⟩ : ∃ w1, w1 = (w.alloc (.cells #[.int .i64 p, .int .i64 R, .int .i64 C, .slice A n k] 26)).alloc (.cells #[.int .i64 0, .int .i64 0, .int .i64 0, .slice none 0 0] 26) := ⟨_, rfl⟩
  obtain ⟨g, hg⟩ : ∃ g, g = w.heap.size := ⟨_, rfl⟩
  have hk : Blk w1 g 26 #[.int .i64 p, .int .i64 R, .int .i64 C, .slice A n k] := by rw [hw1, hg]; exact (Blk.new _ _ _).alloc _
  have hk2 : Blk w1 (g + 1) 26 #[.int .i64 0, .int .i64 0, .int .i64 0, .slice none 0 0] := by
    rw [hw1, hg]
    have := Blk.new (w.alloc (.cells #[.int .i64 p, .int .i64 R, .int .i64 C, .slice A n k] 26)) 26 #[.int .i64 0, .int .i64 0, .int .i64 0, .slice none 0 0]
    simpa using this
  have hb : Below w.heap.size w w1 := by rw [hw1]; go_grown
  have hn196 : n ≤ 196 := by have h1 := hs.1; have h2 := hd0.1; have h3 := nat_mul_small hR hC; omega
  have HCP := Lib.hid (l7Copy_any p (R : Int) (C : Int) A n k xs w1 (hs.below hb (Nat.le_refl _)) (by omega))
  have HNL : Hid (n = R * C) := Lib.hid (by have h1 := hs.1; have h2 := hd0.1; omega)
  have HB1 := Lib.hid hb
  have HW := Lib.hid hw1
  have HG := Lib.hid hg
  have HK := Lib.hid hk
  have HK2 := Lib.hid hk2
  have HSZ : Hid (w1.heap.size = g + 1 + 1) := Lib.hid (by rw [hw1, hg]; simp)
  have HP := Lib.hid hp
  have HD0 := Lib.hid hd0
  have hp2 := hp.two
  have hp7 := hp.le
  have hpnz : p ≠ 0 := by omega
  have HRG : Hid (∀ i c, i < R → c < C → 0 ≤ M0 i c ∧ M0 i c < p) := Lib.hid (fun i c hi hc => by rw [← hd0.2 i c hi hc]; exact hx _)
  clear hw1 hg hk hk2 hb hs hp hx hd0
  go_enter Try.func101, Try.ntmps101
  go_upto_region 1 with fail
  rw [← HW.out, ← HG.out]
  go_upto_region 2 with (first
    | (refine wpList_load_rowP rfl 26 (.tmp 1) rfl g rfl 26 #[.int .i64 p, .int .i64 R, .int .i64 C, .slice A n k] _ HK.out Try.underlying26 rfl Try.infoMx ?_)
    | (go_at_call 115
       with_reducible refine HCP.out.mono ?_
       rintro e w2 ⟨A4, n4, kd, rfl, ho2, hb2⟩
       obtain rfl : n4 = n := by have := ho2.len; have := HD0.out.1; have := HNL.out; omega
       have HO2 := Lib.hid ho2
       have HB2 := Lib.hid hb2
       clear ho2 hb2)
    | (refine wpList_store_rowP rfl 26 (.tmp 4) (.tmp 17) rfl w2.heap.size #[.int .i64 p, .int .i64 R, .int .i64 C, .slice A4 n4 kd] rfl rfl 26 #[.int .i64 0, .int .i64 0, .int .i64 0, .slice none 0 0] (Blk.new _ _ _) Try.infoMx rfl (by simp [Value.oneCell']) ?_
       intro w3 hb3 hg3
       have HK3 := Lib.hid hb3
       have HG3 := Lib.hid hg3
       clear hb3 hg3)
    | fail)
  obtain ⟨s1, hs1⟩ : ∃ s1, s1 = w1.heap.size := ⟨_, rfl⟩
  obtain ⟨s2, hs2⟩ : ∃ s2, s2 = w2.heap.size := ⟨_, rfl⟩
  rw [← hs1] at HB2
  rw [← hs1, ← hs2] at HO2
  rw [← hs2] at HK3 HG3 ⊢
  obtain ⟨n, rfl⟩ : ∃ m, m = n4 := ⟨_, rfl⟩
  have HRS : Hid (RS w w3 g s1 s2 p R C A A4 n k kd xs none 0 0 []) := Lib.hid (by
    have h0 := HSZ.out
    have h1 := HB2.out.size
    have hba : Below s2 w2 (w2.alloc (.cells #[.int .i64 0, .int .i64 0, .int .i64 0, .slice none 0 0] 26)) := (Below.refl s2 w2).alloc (Nat.le_of_eq hs2) _
    have hb3 : Below s2 w2 w3 := hba.grown HG3.out (by simp; omega) (by rintro q ⟨⟩; exact Nat.le_refl _)
    have h3 : s2 < w3.heap.size := HK3.out.lt
    exact ⟨(HK.out.below HB2.out (by rw [hs1]; exact HK.out.lt)).below hb3 (by omega), (HK2.out.below HB2.out (by rw [hs1]; exact HK2.out.lt)).below hb3 (by omega), HK3.out, HO2.out.below hb3 (Nat.le_refl _), Own.nil _ _ _, by omega, by
      have := HB1.out
      rw [← HG.out] at this
      exact (this.trans (HB2.out.mono (by omega))).trans (hb3.mono (by omega))⟩)
  clear hs1 hs2 HK HK2 HK3 HG3 HO2 HB2
  have hne3 : Below w3.heap.size w3 (w3.alloc (.cells #[] 3)) := Below.alloc_self _ _
  have HRS4 : Hid (RS w (w3.alloc (.cells #[] 3)) g s1 s2 p R C A A4 n k kd xs (some ⟨w3.heap.size, 0, none⟩) 0 0 []) := Lib.hid (by
    have h5 := HRS.out.below hne3
    exact ⟨h5.b1, h5.b2, h5.b4, h5.od, (Own.empty w3).wide (by have := HRS.out.ord; omega) (by simp), h5.ord, h5.be⟩)
  clear hne3
  go_wp2_with fail
  go_loopw [5, 6] (fun pv jv wr => ∃ (j : Nat) (d : List Int) (M : Nat → Nat → Int) (Ap : Option Addr) (np cp : Nat) (ps : List Int), j ≤ C ∧ jv = .int .i64 j ∧ pv = .slice Ap np cp ∧ RS w wr g s1 s2 p R C A A4 n k kd d Ap np cp ps ∧ DM d R C M ∧ RedI p C R M0 M ps j)
    (fun _ jv _ => C - (intOf jv).toNat)
  case atStart => exact ⟨0, xs, M0, _, 0, 0, [], Nat.zero_le _, rfl, rfl, HRS4.out, HD0.out, RedI.start HRG.out⟩
  case round =>
    obtain ⟨j, d, M, Ap, np, cp, ps, hj, rfl, rfl, hrs, hdm, hri⟩ := hrel
    clear HRS4 HRS
    have HRS := Lib.hid hrs
    have HDM := Lib.hid hdm
    have HRI := Lib.hid hri
    have HNP := Lib.hid hrs.op.len
    have hnpR : np ≤ R := by have := hri.le; have := HNP.out; omega
    have hjI : (j : Int) ≤ (C : Int) := by omega
    clear hrs hdm hri
    by_cases hlt : j < C ∧ np < R
    case neg =>
      have HFIN : Hid (j = C ∨ ps.length = R) := Lib.hid (by have := HNP.out; omega)
      obtain ⟨q0, q1, q2, q3, q4, q5, q6⟩ := HRS.out.s7
      have tailArm : True := trivial
      by_cases hjC : j < C
      case pos =>
        have hjCI : (j : Int) < (C : Int) := by omega
        have hnpI : ¬ (np : Int) < (R : Int) := by omega
        go_wp2_with (first
          | (refine wpList_load_rowP rfl 26 (.tmp 4) rfl s2 rfl 26 #[.int .i64 p, .int .i64 R, .int .i64 C, .slice A4 n kd] _ HRS.out.b4 Try.underlying26 rfl Try.infoMx ?_)
          | (refine wpList_store_rowP rfl 26 (.tmp 2) (.tmp 168) rfl (g + 1) #[.int .i64 p, .int .i64 R, .int .i64 C, .slice A4 n kd] rfl rfl 26 #[.int .i64 0, .int .i64 0, .int .i64 0, .slice none 0 0] HRS.out.b2 Try.infoMx rfl (by simp [Value.oneCell']) ?_; intro w5 hb5 hg5)
          | fail)
        refine bodyPost_ret (results_mx_tmp Try.results101 _ _ _ 26 #[.int .i64 p, .int .i64 R, .int .i64 C, .slice A4 n kd] _ rfl hb5 Try.underlying26 rfl Try.infoMx) rfl ?_
        have l1 := HRS.out.ord
        have l2 := HG.out
        have l3 := hg5.size
        refine ⟨A4, kd, Ap, np, cp, rfl, d, M, ps, j, ?_, ?_, HDM.out, HRI.out, hj, HFIN.out, ?_⟩
        · exact (HRS.out.od.grown hg5 (fun q hq => by injection hq with hq; omega)).wide (by omega) (by omega)
        · exact (HRS.out.op.grown hg5 (fun q hq => by injection hq with hq; omega)).wide (by omega) (by omega)
        · have := HRS.out.be.grown hg5 (by omega) (by rintro q ⟨⟩; omega)
          rw [l2] at this; exact this
      case neg =>
        have hjCI : ¬ (j : Int) < (C : Int) := by omega
        go_wp2_with (first
          | (refine wpList_load_rowP rfl 26 (.tmp 4) rfl s2 rfl 26 #[.int .i64 p, .int .i64 R, .int .i64 C, .slice A4 n kd] _ HRS.out.b4 Try.underlying26 rfl Try.infoMx ?_)
          | (refine wpList_store_rowP rfl 26 (.tmp 2) (.tmp 168) rfl (g + 1) #[.int .i64 p, .int .i64 R, .int .i64 C, .slice A4 n kd] rfl rfl 26 #[.int .i64 0, .int .i64 0, .int .i64 0, .slice none 0 0] HRS.out.b2 Try.infoMx rfl (by simp [Value.oneCell']) ?_; intro w5 hb5 hg5)
          | fail)
        refine bodyPost_ret (results_mx_tmp Try.results101 _ _ _ 26 #[.int .i64 p, .int .i64 R, .int .i64 C, .slice A4 n kd] _ rfl hb5 Try.underlying26 rfl Try.infoMx) rfl ?_
        have l1 := HRS.out.ord
        have l2 := HG.out
        have l3 := hg5.size
        refine ⟨A4, kd, Ap, np, cp, rfl, d, M, ps, j, ?_, ?_, HDM.out, HRI.out, hj, HFIN.out, ?_⟩
        · exact (HRS.out.od.grown hg5 (fun q hq => by injection hq with hq; omega)).wide (by omega) (by omega)
        · exact (HRS.out.op.grown hg5 (fun q hq => by injection hq with hq; omega)).wide (by omega) (by omega)
        · have := HRS.out.be.grown hg5 (by omega) (by rintro q ⟨⟩; omega)
          rw [l2] at this; exact this
    case pos =>
      obtain ⟨hjC, hnp⟩ := hlt
      have hjCI : (j : Int) < (C : Int) := by omega
      have hnpI : (np : Int) < (R : Int) := by omega
      obtain ⟨q0, q1, q2, q3, q4, q5, q6⟩ := HRS.out.s7
      go_wp2_with fail
      clear q0 q1 q2 q3 q4 q5 q6
      obtain ⟨wo, rfl⟩ : ∃ wo, wo = wr := ⟨wr, rfl⟩
      go_loopw [7] (fun av wr => ∃ a : Nat, np ≤ a ∧ a ≤ R ∧ av = .int .i64 a ∧ RS w wr g s1 s2 p R C A A4 n k kd d Ap np cp ps ∧ ∀ i, np ≤ i → i < a → M i j = 0)
        (fun av _ => R - (intOf av).toNat)
      case atStart => exact ⟨np, Nat.le_refl _, by omega, rfl, HRS.out, fun i h1 h2 => absurd h2 (by omega)⟩
      case round =>
        obtain ⟨a, hna, haR, rfl, hrs, hall⟩ := hrel
        clear HRS
        have HRS := Lib.hid hrs
        have HALL := Lib.hid hall
        obtain ⟨q0, q1, q2, q3, q4, q5, q6⟩ := hrs.s7
        clear hrs hall
        by_cases haE : a < R
        case neg =>
          obtain rfl : a = R := by omega
          have haI : ¬ (a : Int) < (a : Int) := by omega
          go_wp2
          go_roundw
          case rel => exact ⟨j + 1, d, M, Ap, np, cp, ps, by omega, by go_num, rfl, HRS.out, HDM.out, HRI.out.skip (fun i h1 h2 => HALL.out i (by have := HNP.out; omega) h2)⟩
          case measure => simp [intOf]; omega
        case pos =>
          have haI : (a : Int) < (R : Int) := by omega
          obtain ⟨v, hv⟩ : ∃ v, v = M a j := ⟨_, rfl⟩
          have HAT := Lib.hid (HRS.out.at_ HDM.out hR hC haE hjC v hv.symm wr (Below.refl _ _))
          have HV := Lib.hid hv
          clear hv
          by_cases hv0 : v = 0
          case pos =>
            subst hv0
            go_wp2_with (first
              | (go_at_call 63
                 with_reducible refine HAT.out.mono ?_
                 rintro e w4 ⟨rfl, hb4⟩
                 have HRS4 := Lib.hid (HRS.out.below hb4)
                 clear hb4)
              | fail)
            go_roundw
            case rel => exact ⟨a + 1, by omega, by omega, by go_num, HRS4.out, fun i h1 h2 => by
              by_cases e : i = a
              · rw [e]; exact HV.out.symm
              · exact HALL.out i h1 (by omega)⟩
            case measure => simp [intOf]; omega
          case neg =>
            have hvb : (v == 0) = false := by simpa using hv0
            have haRb : ((a : Int) == (R : Int)) = false := by simp; omega
            go_wp2_with (first
              | (go_at_call 63
                 with_reducible refine HAT.out.mono ?_
                 rintro e w4 ⟨rfl, hb4⟩
                 have HRS4 := Lib.hid (HRS.out.below hb4)
                 obtain ⟨t0, t1, t2, t3, t4, t5, t6⟩ := HRS4.out.s7
                 clear hb4)
              | fail)
            clear q0 q1 q2 q3 q4 q5 q6 t0 t1 t2 t3 t4 t5 t6 hvb haRb
            clear HAT
            go_loopw [9] (fun kv wr => ∃ (q : Nat) (d1 : List Int), q ≤ C ∧ kv = .int .i64 q ∧ RS w wr g s1 s2 p R C A A4 n k kd d1 Ap np cp ps ∧ DM d1 R C (swK M a np q))
              (fun kv _ => C - (intOf kv).toNat)
            case atStart => exact ⟨0, d, Nat.zero_le _, rfl, HRS4.out, HDM.out.congr fun i c _ _ => by simp [swK]⟩
            case round =>
              obtain ⟨q, d1, hq, rfl, hrs, hdm⟩ := hrel
              clear HRS4
              by_cases hqC : q < C
              case pos =>
                have hqI : (q : Int) < (C : Int) := by omega
                obtain ⟨gd, rfl, _, _⟩ := hrs.od.place (by rw [HNL.out]; have := idx_lt haE hqC; omega)
                obtain ⟨Na, m1, ha1, ha2, hm1⟩ := idx_wraps (i := a) (C := C) (q := q) (by omega) hC (by omega)
                obtain ⟨Nb, m2, hb1, hb2, hm2⟩ := idx_wraps (i := np) (C := C) (q := q) (by omega) hC (by omega)
                have hm1n : m1 < n := by rw [hm1, HNL.out]; exact idx_lt haE hqC
                have hm2n : m2 < n := by rw [hm2, HNL.out]; exact idx_lt hnp hqC
                have hm1I : (m1 : Int) < (n : Int) := by omega
                have hm2I : (m2 : Int) < (n : Int) := by omega
                obtain ⟨x1, hx1⟩ : ∃ x1, x1 = M a q := ⟨_, rfl⟩
                obtain ⟨y1, hy1⟩ : ∃ y1, y1 = M np q := ⟨_, rfl⟩
                have HAT1 := Lib.hid (hrs.at_ hdm hR hC haE hqC x1 (by rw [hx1]; simp [swK]) wr (Below.refl _ _))
                have HAT2 := Lib.hid (fun w5 (hb5 : Below wr.heap.size wr w5) => (hrs.below hb5).at_ hdm hR hC hnp hqC y1 (by rw [hy1]; simp [swK]) w5.drew ((Below.refl _ _).drew))
                have HFIN : Hid (DM ((d1.set m1 y1).set m2 x1) R C (swK M a np (q + 1))) := Lib.hid (by
                  rw [hm1, hm2]
                  exact ((hdm.set haE hqC y1).set hnp hqC x1).congr fun i c _ _ => by rw [hx1, hy1]; exact swK_step i c)
                have HRS := Lib.hid hrs
                obtain ⟨q0, q1, q2, q3, q4, q5, q6⟩ := hrs.s7
                clear hrs hdm hm1 hm2 hx1 hy1
                go_upto_region 15 with (first
                  | (go_at_call 63
                     with_reducible refine HAT1.out.mono ?_
                     rintro e w5 ⟨rfl, hb5⟩
                     have HRS5 := Lib.hid (HRS.out.below hb5)
                     have HAT3 := Lib.hid (HAT2.out w5 hb5)
                     clear hb5)
                  | fail)
                clear q0 q1 q2 q3 q4 q5 q6 HAT1 HAT2
                have HQ := Lib.hid HRS5.out.s7
                have hqd : w5.drew.cell? ⟨g, 0, none⟩ = some (.int .i64 p) ∧ w5.drew.cell? ⟨g, 1, none⟩ = some (.int .i64 R) ∧ w5.drew.cell? ⟨g, 2, none⟩ = some (.int .i64 C) ∧ w5.drew.cell? ⟨s2, 0, none⟩ = some (.int .i64 p) ∧ w5.drew.cell? ⟨s2, 1, none⟩ = some (.int .i64 R) ∧ w5.drew.cell? ⟨s2, 2, none⟩ = some (.int .i64 C) ∧ w5.drew.cell? ⟨s2, 3, none⟩ = some (.slice (some ⟨gd, 0, none⟩) n kd) := HRS5.out.s7
                have HQD := Lib.hid hqd
                clear hqd
                go_region_held3 (fun w' => w'.cell? ⟨g, 0, none⟩ = some (.int .i64 p) ∧ w'.cell? ⟨g, 1, none⟩ = some (.int .i64 R) ∧ w'.cell? ⟨g, 2, none⟩ = some (.int .i64 C) ∧ w'.cell? ⟨s2, 0, none⟩ = some (.int .i64 p) ∧ w'.cell? ⟨s2, 1, none⟩ = some (.int .i64 R) ∧ w'.cell? ⟨s2, 2, none⟩ = some (.int .i64 C) ∧ w'.cell? ⟨s2, 3, none⟩ = some (.slice (some ⟨gd, 0, none⟩) n kd))
                  (first | exact HQD.out | exact HQ.out | exact K4 | exact K5 | exact KZ)
                  (first
                    | (go_at_call 63
                       with_reducible refine HAT3.out.mono ?_
                       rintro e w6 ⟨rfl, hb6⟩
                       have HB6 : Hid (Below w5.heap.size w5 w6) := Lib.hid (((Below.refl _ _).drew).trans hb6)
                       have HRS6 := Lib.hid (HRS5.out.below HB6.out)
                       have K4 : w6.cell? ⟨g, 0, none⟩ = some (.int .i64 p) ∧ w6.cell? ⟨g, 1, none⟩ = some (.int .i64 R) ∧ w6.cell? ⟨g, 2, none⟩ = some (.int .i64 C) ∧ w6.cell? ⟨s2, 0, none⟩ = some (.int .i64 p) ∧ w6.cell? ⟨s2, 1, none⟩ = some (.int .i64 R) ∧ w6.cell? ⟨s2, 2, none⟩ = some (.int .i64 C) ∧ w6.cell? ⟨s2, 3, none⟩ = some (.slice (some ⟨gd, 0, none⟩) n kd) := HRS6.out.s7
                       have KZ : (w6.setCell ⟨gd, m1, none⟩ (.int .i64 y1)).cell? ⟨g, 0, none⟩ = some (.int .i64 p) ∧ (w6.setCell ⟨gd, m1, none⟩ (.int .i64 y1)).cell? ⟨g, 1, none⟩ = some (.int .i64 R) ∧ (w6.setCell ⟨gd, m1, none⟩ (.int .i64 y1)).cell? ⟨g, 2, none⟩ = some (.int .i64 C) ∧ (w6.setCell ⟨gd, m1, none⟩ (.int .i64 y1)).cell? ⟨s2, 0, none⟩ = some (.int .i64 p) ∧ (w6.setCell ⟨gd, m1, none⟩ (.int .i64 y1)).cell? ⟨s2, 1, none⟩ = some (.int .i64 R) ∧ (w6.setCell ⟨gd, m1, none⟩ (.int .i64 y1)).cell? ⟨s2, 2, none⟩ = some (.int .i64 C) ∧ (w6.setCell ⟨gd, m1, none⟩ (.int .i64 y1)).cell? ⟨s2, 3, none⟩ = some (.slice (some ⟨gd, 0, none⟩) n kd) := (HRS6.out.put m1 y1).s7
                       obtain ⟨cc, ff⟩ := HRS6.out.mcell hm1n
                       clear hb6))
                have HRS7 : Hid (RS w (w6.setCell ⟨gd, m1, none⟩ (.int .i64 y1)) g s1 s2 p R C A (some ⟨gd, 0, none⟩) n k kd (d1.set m1 y1) Ap np cp ps) := Lib.hid (HRS6.out.put m1 y1)
                obtain ⟨w7, hw7⟩ : ∃ w7, w7 = w6.setCell ⟨gd, m1, none⟩ (.int .i64 y1) := ⟨_, rfl⟩
                rw [← hw7] at HRS7 ⊢
                clear hw7 HQ HQD K4 KZ cc ff
                obtain ⟨q0, q1, q2, q3, q4, q5, q6⟩ := HRS7.out.s7
                obtain ⟨cc, ff⟩ := HRS7.out.mcell hm2n
                go_wp2_with fail
                go_roundw
                case rel => exact ⟨q + 1, (d1.set m1 y1).set m2 x1, by omega, by go_num, HRS7.out.put m2 x1, HFIN.out⟩
                case measure => simp [intOf]; omega
              case neg =>
                obtain rfl : C = q := by omega
                have HDM1 : Hid (DM d1 R C (swM M a np)) := Lib.hid (hdm.congr fun i c _ hc => by simp [swK, hc])
                have HRS := Lib.hid hrs
                clear hrs hdm
                obtain ⟨M1, hM1⟩ : ∃ M1, M1 = swM M a np := ⟨_, rfl⟩
                rw [← hM1] at HDM1
                have HM1 := Lib.hid hM1
                have hM1j : M1 np j = v := by
                  rw [hM1, HV.out]
                  by_cases e : np = a
                  · subst e; simp [swM]
                  · simp [swM, e]
                have HRG1 : Hid (∀ i c, i < R → c < C → 0 ≤ M1 i c ∧ M1 i c < p) := Lib.hid (fun i c hi hc => by
                  rw [hM1]
                  unfold swM
                  split
                  · exact HRI.out.rg np c hnp hc
                  · split
                    · exact HRI.out.rg a c haE hc
                    · exact HRI.out.rg i c hi hc)
                have hvr : 0 < v ∧ v < p := by
                  have := HRI.out.rg a j haE hjC
                  rw [← HV.out] at this; omega
                have HAT := Lib.hid (HRS.out.at_ HDM1.out hR hC hnp hjC v hM1j wr.drew ((Below.refl _ _).drew))
                have HIV := Lib.hid (fun w' => l7Inverse_any p v w' HP.out hvr)
                have hivr := inv7_ok HP.out hvr
                obtain ⟨f, hf⟩ : ∃ f, f = inv7 p v := ⟨_, rfl⟩
                rw [← hf] at hivr HIV
                have HF := Lib.hid hf
                have HFR : Hid (0 < f ∧ f < p) := Lib.hid ⟨hivr.1, hivr.2.1⟩
                obtain ⟨q0, q1, q2, q3, q4, q5, q6⟩ := HRS.out.s7
                clear hM1 hM1j hvr hivr hf
                go_wp2_with fail
                clear q0 q1 q2 q3 q4 q5 q6
                have HQ := Lib.hid HRS.out.s7
                have hqd : wr.drew.cell? ⟨g, 0, none⟩ = some (.int .i64 p) ∧ wr.drew.cell? ⟨g, 1, none⟩ = some (.int .i64 R) ∧ wr.drew.cell? ⟨g, 2, none⟩ = some (.int .i64 C) ∧ wr.drew.cell? ⟨s2, 0, none⟩ = some (.int .i64 p) ∧ wr.drew.cell? ⟨s2, 1, none⟩ = some (.int .i64 R) ∧ wr.drew.cell? ⟨s2, 2, none⟩ = some (.int .i64 C) ∧ wr.drew.cell? ⟨s2, 3, none⟩ = some (.slice A4 n kd) := HRS.out.s7
                have HQD := Lib.hid hqd
                clear hqd
                go_region_held3 (fun w' => w'.cell? ⟨g, 0, none⟩ = some (.int .i64 p) ∧ w'.cell? ⟨g, 1, none⟩ = some (.int .i64 R) ∧ w'.cell? ⟨g, 2, none⟩ = some (.int .i64 C) ∧ w'.cell? ⟨s2, 0, none⟩ = some (.int .i64 p) ∧ w'.cell? ⟨s2, 1, none⟩ = some (.int .i64 R) ∧ w'.cell? ⟨s2, 2, none⟩ = some (.int .i64 C) ∧ w'.cell? ⟨s2, 3, none⟩ = some (.slice A4 n kd))
                  (first | exact HQD.out | exact HQ.out | exact K4 | exact K5 | exact KZ)
                  (first
                    | (go_at_call 63
                       with_reducible refine HAT.out.mono ?_
                       rintro e w5 ⟨rfl, hb5⟩
                       have HRS5 := Lib.hid (HRS.out.below (((Below.refl _ _).drew).trans hb5))
                       have K4 : w5.cell? ⟨g, 0, none⟩ = some (.int .i64 p) ∧ w5.cell? ⟨g, 1, none⟩ = some (.int .i64 R) ∧ w5.cell? ⟨g, 2, none⟩ = some (.int .i64 C) ∧ w5.cell? ⟨s2, 0, none⟩ = some (.int .i64 p) ∧ w5.cell? ⟨s2, 1, none⟩ = some (.int .i64 R) ∧ w5.cell? ⟨s2, 2, none⟩ = some (.int .i64 C) ∧ w5.cell? ⟨s2, 3, none⟩ = some (.slice A4 n kd) := HRS5.out.s7
                       clear hb5)
                    | (go_at_call 116
                       with_reducible refine (HIV.out _).mono ?_
                       rintro e w6 ⟨rfl, hd6⟩
                       have HRS6 := Lib.hid (HRS5.out.below (hd6.below _))
                       have K5 : w6.cell? ⟨g, 0, none⟩ = some (.int .i64 p) ∧ w6.cell? ⟨g, 1, none⟩ = some (.int .i64 R) ∧ w6.cell? ⟨g, 2, none⟩ = some (.int .i64 C) ∧ w6.cell? ⟨s2, 0, none⟩ = some (.int .i64 p) ∧ w6.cell? ⟨s2, 1, none⟩ = some (.int .i64 R) ∧ w6.cell? ⟨s2, 2, none⟩ = some (.int .i64 C) ∧ w6.cell? ⟨s2, 3, none⟩ = some (.slice A4 n kd) := HRS6.out.s7
                       clear hd6))
                clear HQ HQD K4 K5
                go_wp2_with fail
                go_loopw [12] (fun kv wr => ∃ (q : Nat) (d2 : List Int), q ≤ C ∧ kv = .int .i64 q ∧ RS w wr g s1 s2 p R C A A4 n k kd d2 Ap np cp ps ∧ DM d2 R C (scK p M1 np f q))
                  (fun kv _ => C - (intOf kv).toNat)
                case atStart => exact ⟨0, d1, Nat.zero_le _, rfl, HRS6.out, HDM1.out.congr fun i c _ _ => by simp [scK]⟩
                case round =>
                  obtain ⟨q, d2, hq2, rfl, hrs, hdm⟩ := hrel
                  clear HRS6 HRS5
                  clear HRS
                  by_cases hqC : q < C
                  case pos =>
                    have hqI : (q : Int) < (C : Int) := by omega
                    obtain ⟨gd, rfl, _, _⟩ := hrs.od.place (by rw [HNL.out]; have := idx_lt haE hqC; omega)
                    obtain ⟨Nb, m2, hb1, hb2, hm2⟩ := idx_wraps (i := np) (C := C) (q := q) (by omega) hC (by omega)
                    have hm2n : m2 < n := by rw [hm2, HNL.out]; exact idx_lt hnp hqC
                    have hm2I : (m2 : Int) < (n : Int) := by omega
                    obtain ⟨x1, hx1⟩ : ∃ x1, x1 = M1 np q := ⟨_, rfl⟩
                    have HAT2 := Lib.hid (hrs.at_ hdm hR hC hnp hqC x1 (by rw [hx1]; simp [scK]) wr.drew ((Below.refl _ _).drew))
                    have hx1r := HRG1.out np q hnp hqC
                    rw [← hx1] at hx1r
                    have hfr := HFR.out
                    have hX0 : 0 ≤ x1 * f := Int.mul_nonneg hx1r.1 (by omega)
                    have hX1 : x1 * f ≤ 7 * 7 := Int.mul_le_mul (by omega) (by omega) (by omega) (by decide)
                    obtain ⟨X, hX⟩ : ∃ X, X = x1 * f := ⟨_, rfl⟩
                    rw [← hX] at hX0 hX1
                    have hwX : IntKind.i64.wrap (x1 * f) = X := by rw [← hX]; exact IntWalk.i64_in _ (by omega)
                    obtain ⟨Y, hY⟩ : ∃ Y, Y = X % p := ⟨_, rfl⟩
                    have hwY : X.tmod p = Y := by rw [hY]; exact Int.tmod_eq_emod_of_nonneg hX0
                    have hYr : 0 ≤ Y ∧ Y < p := by rw [hY]; exact ⟨Int.emod_nonneg _ hpnz, Int.emod_lt_of_pos _ (by omega)⟩
                    have hwZ : IntKind.i64.wrap Y = Y := IntWalk.i64_in _ (by omega)
                    have HFIN : Hid (DM (d2.set m2 Y) R C (scK p M1 np f (q + 1))) := Lib.hid (by
                      rw [hm2]
                      exact (hdm.set hnp hqC Y).congr fun i c _ _ => by rw [hY, hX, hx1]; exact scK_step i c)
                    have HRS := Lib.hid hrs
                    obtain ⟨q0, q1, q2, q3, q4, q5, q6⟩ := hrs.s7
                    clear hrs hdm hm2 hx1 hx1r hfr hX0 hX1 hX hY hYr
                    go_wp2_with fail
                    clear q0 q1 q2 q3 q4 q5 q6
                    have HQ := Lib.hid HRS.out.s7
                    have hqd : wr.drew.cell? ⟨g, 0, none⟩ = some (.int .i64 p) ∧ wr.drew.cell? ⟨g, 1, none⟩ = some (.int .i64 R) ∧ wr.drew.cell? ⟨g, 2, none⟩ = some (.int .i64 C) ∧ wr.drew.cell? ⟨s2, 0, none⟩ = some (.int .i64 p) ∧ wr.drew.cell? ⟨s2, 1, none⟩ = some (.int .i64 R) ∧ wr.drew.cell? ⟨s2, 2, none⟩ = some (.int .i64 C) ∧ wr.drew.cell? ⟨s2, 3, none⟩ = some (.slice (some ⟨gd, 0, none⟩) n kd) := HRS.out.s7
                    have HQD := Lib.hid hqd
                    clear hqd
                    go_region_held3 (fun w' => w'.cell? ⟨g, 0, none⟩ = some (.int .i64 p) ∧ w'.cell? ⟨g, 1, none⟩ = some (.int .i64 R) ∧ w'.cell? ⟨g, 2, none⟩ = some (.int .i64 C) ∧ w'.cell? ⟨s2, 0, none⟩ = some (.int .i64 p) ∧ w'.cell? ⟨s2, 1, none⟩ = some (.int .i64 R) ∧ w'.cell? ⟨s2, 2, none⟩ = some (.int .i64 C) ∧ w'.cell? ⟨s2, 3, none⟩ = some (.slice (some ⟨gd, 0, none⟩) n kd))
                      (first | exact HQD.out | exact HQ.out | exact K4 | exact K5 | exact KZ)
                      (first
                        | (go_at_call 63
                           with_reducible refine HAT2.out.mono ?_
                           rintro e w6 ⟨rfl, hb6⟩
                           have HRS6 := Lib.hid (HRS.out.below (((Below.refl _ _).drew).trans hb6))
                           have K4 : w6.cell? ⟨g, 0, none⟩ = some (.int .i64 p) ∧ w6.cell? ⟨g, 1, none⟩ = some (.int .i64 R) ∧ w6.cell? ⟨g, 2, none⟩ = some (.int .i64 C) ∧ w6.cell? ⟨s2, 0, none⟩ = some (.int .i64 p) ∧ w6.cell? ⟨s2, 1, none⟩ = some (.int .i64 R) ∧ w6.cell? ⟨s2, 2, none⟩ = some (.int .i64 C) ∧ w6.cell? ⟨s2, 3, none⟩ = some (.slice (some ⟨gd, 0, none⟩) n kd) := HRS6.out.s7
                           have KZ : (w6.setCell ⟨gd, m2, none⟩ (.int .i64 Y)).cell? ⟨g, 0, none⟩ = some (.int .i64 p) ∧ (w6.setCell ⟨gd, m2, none⟩ (.int .i64 Y)).cell? ⟨g, 1, none⟩ = some (.int .i64 R) ∧ (w6.setCell ⟨gd, m2, none⟩ (.int .i64 Y)).cell? ⟨g, 2, none⟩ = some (.int .i64 C) ∧ (w6.setCell ⟨gd, m2, none⟩ (.int .i64 Y)).cell? ⟨s2, 0, none⟩ = some (.int .i64 p) ∧ (w6.setCell ⟨gd, m2, none⟩ (.int .i64 Y)).cell? ⟨s2, 1, none⟩ = some (.int .i64 R) ∧ (w6.setCell ⟨gd, m2, none⟩ (.int .i64 Y)).cell? ⟨s2, 2, none⟩ = some (.int .i64 C) ∧ (w6.setCell ⟨gd, m2, none⟩ (.int .i64 Y)).cell? ⟨s2, 3, none⟩ = some (.slice (some ⟨gd, 0, none⟩) n kd) := (HRS6.out.put m2 Y).s7
                           obtain ⟨cc, ff⟩ := HRS6.out.mcell hm2n
                           clear hb6))
                    clear HQ HQD K4 KZ cc ff
                    go_wp2_with fail
                    go_roundw
                    case rel => exact ⟨q + 1, d2.set m2 Y, by omega, by go_num, HRS6.out.put m2 Y, HFIN.out⟩
                    case measure => simp [intOf]; omega
                  case neg =>
                    obtain rfl : C = q := by omega
                    have HDM2 : Hid (DM d2 R C (scM p M1 np f)) := Lib.hid (hdm.congr fun i c _ hc => by simp [scK, hc])
                    have HRS := Lib.hid hrs
                    obtain ⟨M2, hM2⟩ : ∃ M2, M2 = scM p M1 np f := ⟨_, rfl⟩
                    rw [← hM2] at HDM2
                    have HM2 := Lib.hid hM2
                    have HRG2 : Hid (∀ i c, i < R → c < C → 0 ≤ M2 i c ∧ M2 i c < p) := Lib.hid (fun i c hi hc => by
                      rw [hM2]
                      unfold scM
                      split
                      · exact ⟨Int.emod_nonneg _ hpnz, Int.emod_lt_of_pos _ (by omega)⟩
                      · exact HRG1.out i c hi hc)
                    have hCI : ¬ (C : Int) < (C : Int) := by omega
                    obtain ⟨q0, q1, q2, q3, q4, q5, q6⟩ := hrs.s7
                    clear hrs hdm hM2
                    go_wp2_with fail
                    clear q0 q1 q2 q3 q4 q5 q6 hCI
                    go_loopw [13] (fun iv wr => ∃ (i : Nat) (d3 : List Int), i ≤ R ∧ iv = .int .i64 i ∧ RS w wr g s1 s2 p R C A A4 n k kd d3 Ap np cp ps ∧ DM d3 R C (clK p M2 np j i 0))
                      (fun iv _ => R - (intOf iv).toNat)
                    case atStart => exact ⟨0, d2, Nat.zero_le _, rfl, HRS.out, HDM2.out.congr fun i c _ _ => by simp [clK]⟩
                    case round =>
                      obtain ⟨i, d3, hi, rfl, hrs, hdm⟩ := hrel
                      clear HRS
                      have HRS := Lib.hid hrs
                      have HDM3 := Lib.hid hdm
                      clear hrs hdm
                      by_cases hiR : i < R
                      case pos =>
                        have hiI : (i : Int) < (R : Int) := by omega
                        obtain ⟨cv, hcv⟩ : ∃ cv, cv = M2 i j := ⟨_, rfl⟩
                        have HAT3 := Lib.hid (HRS.out.at_ HDM3.out hR hC hiR hjC cv (by rw [hcv]; simp [clK]) wr (Below.refl _ _))
                        have HCV := Lib.hid hcv
                        have hcvr := HRG2.out i j hiR hjC
                        rw [← hcv] at hcvr
                        clear hcv
                        obtain ⟨q0, q1, q2, q3, q4, q5, q6⟩ := HRS.out.s7
                        go_wp2_with (first
                          | (go_at_call 63
                             with_reducible refine HAT3.out.mono ?_
                             rintro e w4 ⟨rfl, hb4⟩
                             have HRS4 := Lib.hid (HRS.out.below hb4)
                             obtain ⟨t0, t1, t2, t3, t4, t5, t6⟩ := HRS4.out.s7
                             clear hb4)
                          | fail)
                        clear q0 q1 q2 q3 q4 q5 q6 t0 t1 t2 t3 t4 t5 t6 HAT3
                        go_loopw [15] (fun kv wr => ∃ (q : Nat) (d4 : List Int), q ≤ C ∧ kv = .int .i64 q ∧ RS w wr g s1 s2 p R C A A4 n k kd d4 Ap np cp ps ∧ DM d4 R C (clK p M2 np j i q) ∧ (i = np → q = 0))
                          (fun kv _ => C - (intOf kv).toNat)
                        case atStart => exact ⟨0, d3, Nat.zero_le _, rfl, HRS4.out, HDM3.out, fun _ => rfl⟩
                        case round =>
                          obtain ⟨q, d4, hq4, rfl, hrs, hdm, hz⟩ := hrel
                          clear HRS4 HRS
                          have HRS := Lib.hid hrs
                          have HDM4 := Lib.hid hdm
                          have HZ := Lib.hid hz
                          clear hrs hdm hz
                          obtain ⟨q0, q1, q2, q3, q4, q5, q6⟩ := HRS.out.s7
                          by_cases hqC : q < C
                          case neg =>
                            have hqI : ¬ (q : Int) < (C : Int) := by omega
                            go_wp2
                            go_roundw
                            case rel => exact ⟨i + 1, d4, by omega, by go_num, HRS.out, HDM4.out.congr fun x c _ hc => by
                              have hqe : q = C := by omega
                              rw [hqe]; exact clK_row x c hc⟩
                            case measure => simp [intOf]; omega
                          case pos =>
                            have hqI : (q : Int) < (C : Int) := by omega
                            by_cases hin : i = np
                            case pos =>
                              have hinb : ((i : Int) != (np : Int)) = false := by simp; omega
                              go_wp2
                              go_roundw
                              case rel => exact ⟨i + 1, d4, by omega, by go_num, HRS.out, HDM4.out.congr fun x c _ hc => by
                                have h0 := HZ.out hin
                                rw [h0, hin]; exact clK_skip x c⟩
                              case measure => simp [intOf]; omega
                            case neg =>
                              have hinb : ((i : Int) != (np : Int)) = true := by simp; omega
                              obtain ⟨gd, rfl, _, _⟩ := HRS.out.od.place (by rw [HNL.out]; have := idx_lt haE hqC; omega)
                              obtain ⟨Nb, m2, hb1, hb2, hm2⟩ := idx_wraps (i := i) (C := C) (q := q) (by omega) hC (by omega)
                              have hm2n : m2 < n := by rw [hm2, HNL.out]; exact idx_lt hiR hqC
                              have hm2I : (m2 : Int) < (n : Int) := by omega
                              obtain ⟨a1, ha1⟩ : ∃ a1, a1 = M2 i q := ⟨_, rfl⟩
                              obtain ⟨b1, hb1'⟩ : ∃ b1, b1 = M2 np q := ⟨_, rfl⟩
                              have hclb : clK p M2 np j i q np q = b1 := by
                                rw [hb1']
                                unfold clK
                                split
                                · simp [clM]
                                · rfl
                              have HATA := Lib.hid (fun w' hb' => HRS.out.at_ HDM4.out hR hC hiR hqC a1 (by rw [ha1]; simp [clK]) w' hb')
                              have HATB := Lib.hid (fun w' hb' => HRS.out.at_ HDM4.out hR hC hnp hqC b1 hclb w' hb')
                              have hbr := HRG2.out np q hnp hqC
                              have har := HRG2.out i q hiR hqC
                              rw [← hb1'] at hbr
                              rw [← ha1] at har
                              obtain ⟨Dv, hDv⟩ : ∃ Dv, Dv = p - cv := ⟨_, rfl⟩
                              have hw1 : IntKind.i64.wrap (p - cv) = Dv := by rw [← hDv]; exact IntWalk.i64_in _ (by omega)
                              have hP0 : 0 ≤ Dv * b1 := Int.mul_nonneg (by omega) hbr.1
                              have hP1 : Dv * b1 ≤ 7 * 7 := Int.mul_le_mul (by omega) (by omega) hbr.1 (by decide)
                              obtain ⟨PB, hPB⟩ : ∃ PB, PB = Dv * b1 := ⟨_, rfl⟩
                              rw [← hPB] at hP0 hP1
                              have hw2 : IntKind.i64.wrap (Dv * b1) = PB := by rw [← hPB]; exact IntWalk.i64_in _ (by omega)
                              obtain ⟨X, hX⟩ : ∃ X, X = a1 + PB := ⟨_, rfl⟩
                              have hw3 : IntKind.i64.wrap (a1 + PB) = X := by rw [← hX]; exact IntWalk.i64_in _ (by omega)
                              obtain ⟨Y, hY⟩ : ∃ Y, Y = X % p := ⟨_, rfl⟩
                              have hw4 : X.tmod p = Y := by rw [hY]; exact Int.tmod_eq_emod_of_nonneg (by omega)
                              have hYr : 0 ≤ Y ∧ Y < p := by rw [hY]; exact ⟨Int.emod_nonneg _ hpnz, Int.emod_lt_of_pos _ (by omega)⟩
                              have hw5 : IntKind.i64.wrap Y = Y := IntWalk.i64_in _ (by omega)
                              have HFIN : Hid (DM (d4.set m2 Y) R C (clK p M2 np j i (q + 1))) := Lib.hid (by
                                rw [hm2]
                                exact (HDM4.out.set hiR hqC Y).congr fun x c _ _ => by rw [hY, hX, hPB, hDv, ha1, hb1', HCV.out]; exact clK_step hin x c)
                              clear hm2 ha1 hb1' hclb hbr har hP0 hP1 hX hY hYr hDv hPB
                              go_wp2_with fail
                              clear q0 q1 q2 q3 q4 q5 q6
                              have HQ := Lib.hid HRS.out.s7
                              have hqd : wr.drew.cell? ⟨g, 0, none⟩ = some (.int .i64 p) ∧ wr.drew.cell? ⟨g, 1, none⟩ = some (.int .i64 R) ∧ wr.drew.cell? ⟨g, 2, none⟩ = some (.int .i64 C) ∧ wr.drew.cell? ⟨s2, 0, none⟩ = some (.int .i64 p) ∧ wr.drew.cell? ⟨s2, 1, none⟩ = some (.int .i64 R) ∧ wr.drew.cell? ⟨s2, 2, none⟩ = some (.int .i64 C) ∧ wr.drew.cell? ⟨s2, 3, none⟩ = some (.slice (some ⟨gd, 0, none⟩) n kd) := HRS.out.s7
                              have HQD := Lib.hid hqd
                              clear hqd
                              go_region_held3 (fun w' => w'.cell? ⟨g, 0, none⟩ = some (.int .i64 p) ∧ w'.cell? ⟨g, 1, none⟩ = some (.int .i64 R) ∧ w'.cell? ⟨g, 2, none⟩ = some (.int .i64 C) ∧ w'.cell? ⟨s2, 0, none⟩ = some (.int .i64 p) ∧ w'.cell? ⟨s2, 1, none⟩ = some (.int .i64 R) ∧ w'.cell? ⟨s2, 2, none⟩ = some (.int .i64 C) ∧ w'.cell? ⟨s2, 3, none⟩ = some (.slice (some ⟨gd, 0, none⟩) n kd))
                                (first | exact HQD.out | exact HQ.out | exact K4 | exact K5 | exact KZ)
                                (first
                                  | (go_at_call 63
                                     with_reducible refine (HATB.out _ HBA.out).mono ?_
                                     rintro e w6 ⟨rfl, hb6⟩
                                     have HRS6 := Lib.hid (HRS.out.below (HBA.out.trans (hb6.mono HBA.out.size)))
                                     have K4 : w6.cell? ⟨g, 0, none⟩ = some (.int .i64 p) ∧ w6.cell? ⟨g, 1, none⟩ = some (.int .i64 R) ∧ w6.cell? ⟨g, 2, none⟩ = some (.int .i64 C) ∧ w6.cell? ⟨s2, 0, none⟩ = some (.int .i64 p) ∧ w6.cell? ⟨s2, 1, none⟩ = some (.int .i64 R) ∧ w6.cell? ⟨s2, 2, none⟩ = some (.int .i64 C) ∧ w6.cell? ⟨s2, 3, none⟩ = some (.slice (some ⟨gd, 0, none⟩) n kd) := HRS6.out.s7
                                     have KZ : (w6.setCell ⟨gd, m2, none⟩ (.int .i64 Y)).cell? ⟨g, 0, none⟩ = some (.int .i64 p) ∧ (w6.setCell ⟨gd, m2, none⟩ (.int .i64 Y)).cell? ⟨g, 1, none⟩ = some (.int .i64 R) ∧ (w6.setCell ⟨gd, m2, none⟩ (.int .i64 Y)).cell? ⟨g, 2, none⟩ = some (.int .i64 C) ∧ (w6.setCell ⟨gd, m2, none⟩ (.int .i64 Y)).cell? ⟨s2, 0, none⟩ = some (.int .i64 p) ∧ (w6.setCell ⟨gd, m2, none⟩ (.int .i64 Y)).cell? ⟨s2, 1, none⟩ = some (.int .i64 R) ∧ (w6.setCell ⟨gd, m2, none⟩ (.int .i64 Y)).cell? ⟨s2, 2, none⟩ = some (.int .i64 C) ∧ (w6.setCell ⟨gd, m2, none⟩ (.int .i64 Y)).cell? ⟨s2, 3, none⟩ = some (.slice (some ⟨gd, 0, none⟩) n kd) := (HRS6.out.put m2 Y).s7
                                     obtain ⟨cc, ff⟩ := HRS6.out.mcell hm2n
                                     clear hb6)
                                  | (go_at_call 63
                                     with_reducible refine (HATA.out _ HBC.out).mono ?_
                                     rintro e w6 ⟨rfl, hb6⟩
                                     have HRS6 := Lib.hid (HRS.out.below (HBC.out.trans (hb6.mono HBC.out.size)))
                                     have K4 : w6.cell? ⟨g, 0, none⟩ = some (.int .i64 p) ∧ w6.cell? ⟨g, 1, none⟩ = some (.int .i64 R) ∧ w6.cell? ⟨g, 2, none⟩ = some (.int .i64 C) ∧ w6.cell? ⟨s2, 0, none⟩ = some (.int .i64 p) ∧ w6.cell? ⟨s2, 1, none⟩ = some (.int .i64 R) ∧ w6.cell? ⟨s2, 2, none⟩ = some (.int .i64 C) ∧ w6.cell? ⟨s2, 3, none⟩ = some (.slice (some ⟨gd, 0, none⟩) n kd) := HRS6.out.s7
                                     have KZ : (w6.setCell ⟨gd, m2, none⟩ (.int .i64 Y)).cell? ⟨g, 0, none⟩ = some (.int .i64 p) ∧ (w6.setCell ⟨gd, m2, none⟩ (.int .i64 Y)).cell? ⟨g, 1, none⟩ = some (.int .i64 R) ∧ (w6.setCell ⟨gd, m2, none⟩ (.int .i64 Y)).cell? ⟨g, 2, none⟩ = some (.int .i64 C) ∧ (w6.setCell ⟨gd, m2, none⟩ (.int .i64 Y)).cell? ⟨s2, 0, none⟩ = some (.int .i64 p) ∧ (w6.setCell ⟨gd, m2, none⟩ (.int .i64 Y)).cell? ⟨s2, 1, none⟩ = some (.int .i64 R) ∧ (w6.setCell ⟨gd, m2, none⟩ (.int .i64 Y)).cell? ⟨s2, 2, none⟩ = some (.int .i64 C) ∧ (w6.setCell ⟨gd, m2, none⟩ (.int .i64 Y)).cell? ⟨s2, 3, none⟩ = some (.slice (some ⟨gd, 0, none⟩) n kd) := (HRS6.out.put m2 Y).s7
                                     obtain ⟨cc, ff⟩ := HRS6.out.mcell hm2n
                                     clear hb6)
                                  | (go_at_call 63
                                     with_reducible refine (HATA.out _ ((Below.refl _ _).drew)).mono ?_
                                     rintro e wa ⟨rfl, hb5⟩
                                     have HBA : Hid (Below wr.heap.size wr wa) := Lib.hid (((Below.refl _ _).drew).trans hb5)
                                     have K5 : wa.cell? ⟨g, 0, none⟩ = some (.int .i64 p) ∧ wa.cell? ⟨g, 1, none⟩ = some (.int .i64 R) ∧ wa.cell? ⟨g, 2, none⟩ = some (.int .i64 C) ∧ wa.cell? ⟨s2, 0, none⟩ = some (.int .i64 p) ∧ wa.cell? ⟨s2, 1, none⟩ = some (.int .i64 R) ∧ wa.cell? ⟨s2, 2, none⟩ = some (.int .i64 C) ∧ wa.cell? ⟨s2, 3, none⟩ = some (.slice (some ⟨gd, 0, none⟩) n kd) := (HRS.out.below HBA.out).s7
                                     clear hb5)
                                  | (go_at_call 63
                                     with_reducible refine (HATB.out _ ((Below.refl _ _).drew)).mono ?_
                                     rintro e wc ⟨rfl, hb5⟩
                                     have HBC : Hid (Below wr.heap.size wr wc) := Lib.hid (((Below.refl _ _).drew).trans hb5)
                                     have K5 : wc.cell? ⟨g, 0, none⟩ = some (.int .i64 p) ∧ wc.cell? ⟨g, 1, none⟩ = some (.int .i64 R) ∧ wc.cell? ⟨g, 2, none⟩ = some (.int .i64 C) ∧ wc.cell? ⟨s2, 0, none⟩ = some (.int .i64 p) ∧ wc.cell? ⟨s2, 1, none⟩ = some (.int .i64 R) ∧ wc.cell? ⟨s2, 2, none⟩ = some (.int .i64 C) ∧ wc.cell? ⟨s2, 3, none⟩ = some (.slice (some ⟨gd, 0, none⟩) n kd) := (HRS.out.below HBC.out).s7
                                     clear hb5))
                              all_goals
                                (clear HQ HQD cc ff
                                 go_wp2_with fail
                                 go_roundw
                                 case rel => exact ⟨q + 1, d4.set m2 Y, by omega, by go_num, HRS6.out.put m2 Y, HFIN.out, fun h => absurd h hin⟩
                                 case measure => simp [intOf]; omega)
                      case neg =>
                        obtain rfl : R = i := by omega
                        have HSTEP : Hid (RedI p C R M0 (clM p M2 np j) (ps ++ [(j : Int)]) (j + 1)) := Lib.hid (by
                          have h5 := HRI.out.step HP.out hjC (a := a) (by rw [HNP.out]; exact hna) haE (by rw [← HV.out]; exact hv0)
                          rw [HNP.out, ← HV.out, ← HF.out, ← HM1.out, ← HM2.out] at h5
                          exact h5)
                        have HDML : Hid (DM d3 R C (clM p M2 np j)) := Lib.hid (HDM3.out.congr fun x c hx _ => by
                          unfold clK
                          rw [if_pos (Or.inl hx)])
                        have hRI : ¬ (R : Int) < (R : Int) := by omega
                        obtain ⟨q0, q1, q2, q3, q4, q5, q6⟩ := HRS.out.s7
                        go_wp2_with (first
                          | (at_builtin
                             refine wpList_append1 rfl (.tmp 164) (.tmp 166) rfl (s2 + 1) Ap np cp ps (j : Int) rfl (by show Act.eval _ _ = _; simp [Act.eval]) HRS.out.op (by have := HRS.out.ord; omega) (by omega) ?_
                             intro A' c' w9 ho9 hg9 hb9
                             have HRS9 := Lib.hid (HRS.out.app hg9 rfl ho9)
                             clear ho9 hg9 hb9)
                          | fail)
                        go_roundw
                        case rel => exact ⟨j + 1, d3, clM p M2 np j, A', np + 1, c', ps ++ [(j : Int)], by omega, by go_num, rfl, HRS9.out, HDML.out, HSTEP.out⟩
                        case measure => simp [intOf]; omega

end Go.Proofs.Ytdepalpkcmfegaa

/-
  Spans on the document's side: the first rows. Conditions: sizes at most 14.
-/


namespace Go.Proofs.Ytdepalpkcmfegaa
open Go.RowKit

theorem Own.shape_ {w : World} {lo hi n c : Nat} {A : Option Addr} {xs : List Int} (h : Own w lo hi A n c xs) : (A = none ∧ n = 0 ∧ c = 0) ∨ ∃ g, A = some ⟨g, 0, none⟩ := by
  rcases h.1.2 with ⟨e1, _⟩ | ⟨g', cap, cur, e1, _, hg, _⟩
  · injection e1 with e2 e3 e4
    exact Or.inl ⟨e2, e3, e4⟩
  · injection e1 with e2 e3 e4
    exact Or.inr ⟨g', e2⟩
set_option maxRecDepth 100000 in
set_option maxHeartbeats 4000000 in
theorem l7Top_some (p r : Int) (C R b n k : Nat) (xs : List Int) (w : World) (hs : SI w (some ⟨b, 0, none⟩) n xs) (hC : C ≤ 14) (hR : R ≤ 14) (hRC : R * C ≤ n) (hnk : n ≤ k) :
    Calls Try.prog 102 #[.agg #[.int .i64 p, .int .i64 r, .int .i64 C, .slice (some ⟨b, 0, none⟩) n k], .int .i64 R] w fun e w' => FreshMx w w' e p R C (xs.take (R * C)) := by
  obtain ⟨w1, hw1⟩ : ∃ w1, w1 = (w.alloc (.cells #[.int .i64 p, .int .i64 r, .int .i64 C, .slice (some ⟨b, 0, none⟩) n k] 26)).alloc (.cells #[.int .i64 0, .int .i64 0, .int .i64 0, .slice none 0 0] 26) := ⟨_, rfl⟩
  obtain ⟨g, hg⟩ : ∃ g, g = w.heap.size := ⟨_, rfl⟩
  have hk : Blk w1 g 26 #[.int .i64 p, .int .i64 r, .int .i64 C, .slice (some ⟨b, 0, none⟩) n k] := by rw [hw1, hg]; exact (Blk.new _ _ _).alloc _
  have hk2 : Blk w1 (g + 1) 26 #[.int .i64 0, .int .i64 0, .int .i64 0, .slice none 0 0] := by
    rw [hw1, hg]
    have := Blk.new (w.alloc (.cells #[.int .i64 p, .int .i64 r, .int .i64 C, .slice (some ⟨b, 0, none⟩) n k] 26)) 26 #[.int .i64 0, .int .i64 0, .int .i64 0, .slice none 0 0]
    simpa using this
  have hb : Below w.heap.size w w1 := by rw [hw1]; go_grown
  obtain ⟨N, hN⟩ : ∃ N, N = R * C := ⟨_, rfl⟩
  rw [← hN] at hRC ⊢
  have hN196 : N ≤ 196 := by have := nat_mul_small hR hC; omega
  have hwr : IntKind.i64.wrap ((R : Int) * (C : Int)) = (N : Int) := wrap_mul_nat hN (by omega)
  have hNk : N ≤ k := by omega
  have HS := Lib.hid (hs.below hb (Nat.le_refl _))
  have HB1 := Lib.hid hb
  have HW := Lib.hid hw1
  have HG := Lib.hid hg
  have HK := Lib.hid hk
  have HK2 := Lib.hid hk2
  have HSZ : Hid (w1.heap.size = g + 1 + 1) := Lib.hid (by rw [hw1, hg]; simp)
  have hqd : w1.drew.cell? ⟨g, 0, none⟩ = some (.int .i64 p) ∧ w1.drew.cell? ⟨g, 1, none⟩ = some (.int .i64 r) ∧ w1.drew.cell? ⟨g, 2, none⟩ = some (.int .i64 C) ∧ w1.drew.cell? ⟨g, 3, none⟩ = some (.slice (some ⟨b, 0, none⟩) n k) := cells4 hk
  have HQD := Lib.hid hqd
  have HQ := Lib.hid (cells4 hk)
  have HC1 := Lib.hid (fun w' (hb' : Below w1.heap.size w1 w') => l1Ints_any (some ⟨b, 0, none⟩) N k (xs.take N) w' ((HS.out.below hb' (Nat.le_refl _)).take hRC) (by omega))
  have hNI : (0 : Int) ≤ (N : Int) := by omega
  have hNkI : (N : Int) ≤ (k : Int) := by omega
  clear hw1 hg hk hk2 hb hs hqd hN hRC hC hR
  go_enter Try.func102, Try.ntmps102
  go_upto_region 1 with fail
  rw [← HW.out, ← HG.out]
  go_region_held3 (fun w' => w'.cell? ⟨g, 0, none⟩ = some (.int .i64 p) ∧ w'.cell? ⟨g, 1, none⟩ = some (.int .i64 r) ∧ w'.cell? ⟨g, 2, none⟩ = some (.int .i64 C) ∧ w'.cell? ⟨g, 3, none⟩ = some (.slice (some ⟨b, 0, none⟩) n k))
    (first | exact HQD.out | exact HQ.out | exact K4 | exact KZ)
    (first
      | (go_at_call 103
         with_reducible refine (HC1.out _ ((Below.refl _ _).drew)).mono ?_
         rintro e w4 ⟨B1, m1, d1, rfl, ho4, hb4⟩
         have HB4 : Hid (Below w1.heap.size w1 w4) := Lib.hid (((Below.refl _ _).drew).trans hb4)
         have HK4 := Lib.hid (HK.out.below HB4.out HK.out.lt)
         have K4 := cells4 HK4.out
         have HR4 := Lib.hid (HK2.out.below HB4.out HK2.out.lt)
         obtain ⟨rr0, rr1, rr2, rr3⟩ := cells4 HR4.out
         obtain ⟨ff0, ff1, ff2, ff3⟩ := frozenM HR4.out
         have KZ := cells4 ((((HK4.out.far (p := ⟨g + 1, 0, none⟩) (by show g ≠ g + 1; omega) (.int .i64 p)).far (p := ⟨g + 1, 1, none⟩) (by show g ≠ g + 1; omega) (.int .i64 R)).far (p := ⟨g + 1, 2, none⟩) (by show g ≠ g + 1; omega) (.int .i64 C)).far (p := ⟨g + 1, 3, none⟩) (by show g ≠ g + 1; omega) (.slice B1 m1 d1))
         have HO4 : Hid (Own w4 w1.heap.size w4.heap.size B1 m1 d1 (xs.take N)) := Lib.hid ho4
         have HRP : Hid (Blk ((((w4.setCell ⟨g + 1, 0, none⟩ (.int .i64 p)).setCell ⟨g + 1, 1, none⟩ (.int .i64 R)).setCell ⟨g + 1, 2, none⟩ (.int .i64 C)).setCell ⟨g + 1, 3, none⟩ (.slice B1 m1 d1)) (g + 1) 26 #[.int .i64 p, .int .i64 R, .int .i64 C, .slice B1 m1 d1]) := Lib.hid ((((HR4.out.set_ 0 _).set_ 1 _).set_ 2 _).set_ 3 _)
         have HGP := Lib.hid (grown_putM w4 (g + 1) (.int .i64 p) (.int .i64 R) (.int .i64 C) (.slice B1 m1 d1))
         clear ho4 hb4))
  go_wp2
  refine bodyPost_ret (results_rowP Try.results102 _ _ _ 26 #[.int .i64 p, .int .i64 R, .int .i64 C, .slice B1 m1 d1] _ rfl HRP.out Try.underlying26 rfl Try.infoMx) rfl ?_
  have l1 := HSZ.out
  have l2 := HG.out
  have l3 := HGP.out.size
  have l4 := HB4.out.size
  have l5 := HB1.out.size
  refine ⟨B1, m1, d1, rfl, ?_, ?_⟩
  · exact (HO4.out.grown HGP.out (fun q hq => by injection hq with hq; omega)).wide (by omega) l3
  · exact (HB1.out.trans (HB4.out.mono l5)).grown HGP.out (by omega) (by rintro q ⟨⟩; omega)
-- none
set_option maxRecDepth 100000 in
set_option maxHeartbeats 4000000 in
theorem l7Top_none (p r : Int) (C R : Nat) (w : World) (hRC : R * C = 0) :
    Calls Try.prog 102 #[.agg #[.int .i64 p, .int .i64 r, .int .i64 C, .slice none 0 0], .int .i64 R] w fun e w' => FreshMx w w' e p R C [] := by
  obtain ⟨w1, hw1⟩ : ∃ w1, w1 = (w.alloc (.cells #[.int .i64 p, .int .i64 r, .int .i64 C, .slice none 0 0] 26)).alloc (.cells #[.int .i64 0, .int .i64 0, .int .i64 0, .slice none 0 0] 26) := ⟨_, rfl⟩
  obtain ⟨g, hg⟩ : ∃ g, g = w.heap.size := ⟨_, rfl⟩
  have hk : Blk w1 g 26 #[.int .i64 p, .int .i64 r, .int .i64 C, .slice none 0 0] := by rw [hw1, hg]; exact (Blk.new _ _ _).alloc _
  have hk2 : Blk w1 (g + 1) 26 #[.int .i64 0, .int .i64 0, .int .i64 0, .slice none 0 0] := by
    rw [hw1, hg]
    have := Blk.new (w.alloc (.cells #[.int .i64 p, .int .i64 r, .int .i64 C, .slice none 0 0] 26)) 26 #[.int .i64 0, .int .i64 0, .int .i64 0, .slice none 0 0]
    simpa using this
  have hb : Below w.heap.size w w1 := by rw [hw1]; go_grown
  have hwr : IntKind.i64.wrap ((R : Int) * (C : Int)) = 0 := by have h := wrap_mul_nat (r := R) (c := C) (N := 0) hRC.symm (by omega); simpa using h
  have HB1 := Lib.hid hb
  have HW := Lib.hid hw1
  have HG := Lib.hid hg
  have HK := Lib.hid hk
  have HK2 := Lib.hid hk2
  have HSZ : Hid (w1.heap.size = g + 1 + 1) := Lib.hid (by rw [hw1, hg]; simp)
  have hqd : w1.drew.cell? ⟨g, 0, none⟩ = some (.int .i64 p) ∧ w1.drew.cell? ⟨g, 1, none⟩ = some (.int .i64 r) ∧ w1.drew.cell? ⟨g, 2, none⟩ = some (.int .i64 C) ∧ w1.drew.cell? ⟨g, 3, none⟩ = some (.slice none 0 0) := cells4 hk
  have HQD := Lib.hid hqd
  have HQ := Lib.hid (cells4 hk)
  have HC1 := Lib.hid (fun w' (_ : Below w1.heap.size w1 w') => l1Ints_any none 0 0 [] w' (SI.nil _ _) (by omega))
  clear hw1 hg hk hk2 hb hqd hRC
  go_enter Try.func102, Try.ntmps102
  go_upto_region 1 with fail
  rw [← HW.out, ← HG.out]
  go_region_held3 (fun w' => w'.cell? ⟨g, 0, none⟩ = some (.int .i64 p) ∧ w'.cell? ⟨g, 1, none⟩ = some (.int .i64 r) ∧ w'.cell? ⟨g, 2, none⟩ = some (.int .i64 C) ∧ w'.cell? ⟨g, 3, none⟩ = some (.slice none 0 0))
    (first | exact HQD.out | exact HQ.out | exact K4 | exact KZ)
    (first
      | (go_at_call 103
         with_reducible refine (HC1.out _ ((Below.refl _ _).drew)).mono ?_
         rintro e w4 ⟨B1, m1, d1, rfl, ho4, hb4⟩
         have HB4 : Hid (Below w1.heap.size w1 w4) := Lib.hid (((Below.refl _ _).drew).trans hb4)
         have HK4 := Lib.hid (HK.out.below HB4.out HK.out.lt)
         have K4 := cells4 HK4.out
         have HR4 := Lib.hid (HK2.out.below HB4.out HK2.out.lt)
         obtain ⟨rr0, rr1, rr2, rr3⟩ := cells4 HR4.out
         obtain ⟨ff0, ff1, ff2, ff3⟩ := frozenM HR4.out
         have KZ := cells4 ((((HK4.out.far (p := ⟨g + 1, 0, none⟩) (by show g ≠ g + 1; omega) (.int .i64 p)).far (p := ⟨g + 1, 1, none⟩) (by show g ≠ g + 1; omega) (.int .i64 R)).far (p := ⟨g + 1, 2, none⟩) (by show g ≠ g + 1; omega) (.int .i64 C)).far (p := ⟨g + 1, 3, none⟩) (by show g ≠ g + 1; omega) (.slice B1 m1 d1))
         have HO4 : Hid (Own w4 w1.heap.size w4.heap.size B1 m1 d1 []) := Lib.hid ho4
         have HRP : Hid (Blk ((((w4.setCell ⟨g + 1, 0, none⟩ (.int .i64 p)).setCell ⟨g + 1, 1, none⟩ (.int .i64 R)).setCell ⟨g + 1, 2, none⟩ (.int .i64 C)).setCell ⟨g + 1, 3, none⟩ (.slice B1 m1 d1)) (g + 1) 26 #[.int .i64 p, .int .i64 R, .int .i64 C, .slice B1 m1 d1]) := Lib.hid ((((HR4.out.set_ 0 _).set_ 1 _).set_ 2 _).set_ 3 _)
         have HGP := Lib.hid (grown_putM w4 (g + 1) (.int .i64 p) (.int .i64 R) (.int .i64 C) (.slice B1 m1 d1))
         clear ho4 hb4))
  go_wp2
  refine bodyPost_ret (results_rowP Try.results102 _ _ _ 26 #[.int .i64 p, .int .i64 R, .int .i64 C, .slice B1 m1 d1] _ rfl HRP.out Try.underlying26 rfl Try.infoMx) rfl ?_
  have l1 := HSZ.out
  have l2 := HG.out
  have l3 := HGP.out.size
  have l4 := HB4.out.size
  have l5 := HB1.out.size
  refine ⟨B1, m1, d1, rfl, ?_, ?_⟩
  · exact (HO4.out.grown HGP.out (fun q hq => by injection hq with hq; omega)).wide (by omega) l3
  · exact (HB1.out.trans (HB4.out.mono l5)).grown HGP.out (by omega) (by rintro q ⟨⟩; omega)
theorem l7Top_own (p r : Int) (C R lo hi n k : Nat) (A : Option Addr) (xs : List Int) (w : World) (hs : Own w lo hi A n k xs) (hC : C ≤ 14) (hR : R ≤ 14) (hRC : R * C ≤ n) :
    Calls Try.prog 102 #[.agg #[.int .i64 p, .int .i64 r, .int .i64 C, .slice A n k], .int .i64 R] w fun e w' => FreshMx w w' e p R C (xs.take (R * C)) := by
  rcases hs.shape_ with ⟨rfl, rfl, rfl⟩ | ⟨g, rfl⟩
  · have h0 : R * C = 0 := by omega
    rw [h0, List.take_zero]
    exact l7Top_none p r C R w h0
  · exact l7Top_some p r C R g n k xs w hs.si hC hR hRC hs.cap
end Go.Proofs.Ytdepalpkcmfegaa

/-
  Spans on the document's side: the functions. Conditions: lengths below 2^40.
-/


namespace Go.Proofs.Ytdepalpkcmfegaa
open Go.RowKit

theorem span_take {d : List Int} {R C np : Nat} {M : Nat → Nat → Int} {L : List (List Int)} (hd : DM d R C M) (hnp : np ≤ R) (hC : 0 < C) (h : ∀ i c, i < np → c < C → nth (li L i) c = M i c) : d.take (np * C) = flatK np C L np := by
  have hle : np * C ≤ R * C := Nat.mul_le_mul hnp (Nat.le_refl _)
  refine nth_ext (by rw [List.length_take, flatK_len, hd.1]; omega) fun q hq => ?_
  have hq1 : q < np * C := by rw [List.length_take] at hq; omega
  rw [nth_take hq1, flatK_nth hq1]
  have hqC : q / C < np := by rw [Nat.div_lt_iff_lt_mul hC]; exact hq1
  rw [if_pos hqC, h _ _ hqC (Nat.mod_lt _ hC), ← hd.2 _ _ (by omega) (Nat.mod_lt _ hC)]
  congr 1
  rw [Nat.mul_comm]; exact (Nat.div_add_mod q C).symm
set_option maxRecDepth 100000 in
set_option maxHeartbeats 4000000 in
theorem l7Span_any (p : Int) (R C : Nat) (A : Option Addr) (n k : Nat) (xs : List Int) (w : World) (hp : P7 p) (hs : SI w A n xs) (hR : R ≤ 14) (hC : 0 < C ∧ C ≤ 14) (hx : Rg p xs) (hl : xs.length = R * C) :
    Calls Try.prog 53 #[.agg #[.int .i64 p, .int .i64 R, .int .i64 C, .slice A n k]] w fun e w' => FreshMx w w' e p (spanN p C (rowsC xs C R C)) C (spanX p C (rowsC xs C R C)) := by
  obtain ⟨w1, hw1⟩ : ∃ w1, w1 = (w.alloc (.cells #[.int .i64 p, .int .i64 R, .int .i64 C, .slice A n k] 26)).alloc (.cells #[.int .i64 0, .int .i64 0, .int .i64 0, .slice none 0 0] 26) := ⟨_, rfl⟩
  obtain ⟨g, hg⟩ : ∃ g, g = w.heap.size := ⟨_, rfl⟩
  have hk : Blk w1 g 26 #[.int .i64 p, .int .i64 R, .int .i64 C, .slice A n k] := by rw [hw1, hg]; exact (Blk.new _ _ _).alloc _
  have hk2 : Blk w1 (g + 1) 26 #[.int .i64 0, .int .i64 0, .int .i64 0, .slice none 0 0] := by
    rw [hw1, hg]
    have := Blk.new (w.alloc (.cells #[.int .i64 p, .int .i64 R, .int .i64 C, .slice A n k] 26)) 26 #[.int .i64 0, .int .i64 0, .int .i64 0, .slice none 0 0]
    simpa using this
  have hb : Below w.heap.size w w1 := by rw [hw1]; go_grown
  have hro := rowsC_ok (by have := hp.two; omega) hx C R C
  have HB := Lib.hid hb
  have HW := Lib.hid hw1
  have HG := Lib.hid hg
  have HK := Lib.hid hk
  have HK2 := Lib.hid hk2
  have HC := Lib.hid hC
  have HN := Lib.hid (spanN_le hp hro)
  have HSZ : Hid (w1.heap.size = g + 1 + 1) := Lib.hid (by rw [hw1, hg]; simp)
  have HRED := Lib.hid (l7Reduce_any p R C A n k xs (fun i c => nth xs (i * C + c)) w1 hp (hs.below hb (Nat.le_refl _)) hR hC.2 hx ⟨hl, fun i c _ _ => rfl⟩)
  have HRK := Lib.hid (fun (M : Nat → Nat → Int) (ps : List Int) (j : Nat) (h : RedI p C R (fun i c => nth xs (i * C + c)) M ps j) (hj : j ≤ C) (he : j = C ∨ ps.length = R) => red_rows hp hro (rowsC_len ..) (fun i c hi hc => by rw [rowsC_li hi, rowC_nth hc]) h hj he)
  have HNL : Hid (n = R * C) := Lib.hid (by have := hs.1; omega)
  clear hw1 hg hk hk2 hb hs hp hx hl hro hC
  go_enter Try.func53, Try.ntmps53
  go_upto_region 1 with fail
  rw [← HW.out, ← HG.out]
  go_upto_region 2 with (first
    | (refine wpList_load_rowP rfl 26 (.tmp 1) rfl g rfl 26 #[.int .i64 p, .int .i64 R, .int .i64 C, .slice A n k] _ HK.out Try.underlying26 rfl Try.infoMx ?_)
    | (go_at_call 101
       with_reducible refine HRED.out.mono ?_
       rintro e w2 ⟨A2, k2, Ap, np, cp, rfl, hres⟩
       have HRES := Lib.hid hres
       clear hres)
    | (refine wpList_store_rowP rfl 26 (.tmp 3) (.tmp 8) rfl w2.heap.size #[.int .i64 p, .int .i64 R, .int .i64 C, .slice A2 n k2] rfl rfl 26 #[.int .i64 0, .int .i64 0, .int .i64 0, .slice none 0 0] (Blk.new _ _ _) Try.infoMx rfl (by simp [Value.oneCell']) ?_; intro w5 hb5 hg5; have HK5 := Lib.hid hb5; have HG5 := Lib.hid hg5; clear hb5 hg5)
    | fail)
  obtain ⟨s2, hs2⟩ : ∃ s2, s2 = w2.heap.size := ⟨_, rfl⟩
  rw [← hs2] at HK5 HG5 ⊢
  have HS2 := Lib.hid hs2
  clear hs2
  obtain ⟨d, M, ps, j, hod, hop, hdm, hri, hj, he, hbel⟩ := HRES.out
  have hrr := HRK.out M ps j hri hj he
  have hnp : np = spanN p C (rowsC xs C R C) := by have := hop.len; have := hrr.1; unfold spanN; omega
  have hnR : np ≤ R := by have := hop.len; have := hri.le; omega
  have hB25 : Below s2 w2 w5 := ((Below.refl s2 w2).alloc (Nat.le_of_eq HS2.out) _).grown HG5.out (by have := HS2.out; simp; omega) (by rintro q ⟨⟩; exact Nat.le_refl _)
  have HB15 : Hid (Below w1.heap.size w1 w5) := Lib.hid (hbel.trans (hB25.mono (by have := HS2.out; have := hbel.size; omega)))
  have HO5 : Hid (Own w5 w1.heap.size s2 A2 n k2 d) := Lib.hid ((hod.wide (Nat.le_refl _) (Nat.le_of_eq HS2.out.symm)).below hB25 (Nat.le_refl _))
  have HR5 := Lib.hid (HK2.out.below HB15.out HK2.out.lt)
  have hnC : np * C ≤ n := by rw [HNL.out]; exact Nat.mul_le_mul hnR (Nat.le_refl _)
  have HTAKE : Hid (d.take (np * C) = spanX p C (rowsC xs C R C)) := Lib.hid (by
    have hsp := span_take (L := spanL p C (rowsC xs C R C)) hdm hnR HC.out.1 (fun i c hi hc => hrr.2.2 i c (by have := hop.len; omega) hc)
    rw [hsp]
    unfold spanX
    rw [← hnp])
  have HTOP := Lib.hid (l7Top_own p (R : Int) C np w1.heap.size s2 n k2 A2 d w5 HO5.out HC.out.2 (by omega) hnC)
  rw [HTAKE.out] at HTOP
  have HNP := Lib.hid hnp
  have HSS : Hid (w1.heap.size ≤ w5.heap.size) := Lib.hid HB15.out.size
  clear hod hop hdm hri hj he hbel hrr hnp hnR hB25 hnC HTAKE
  go_wp2_with (first
    | (refine wpList_load_rowP rfl 26 (.tmp 3) rfl s2 rfl 26 #[.int .i64 p, .int .i64 R, .int .i64 C, .slice A2 n k2] _ HK5.out Try.underlying26 rfl Try.infoMx ?_)
    | (go_at_call 102
       with_reducible refine HTOP.out.mono ?_
       rintro e w6 ⟨B6, n6, k6, rfl, ho6, hb6⟩
       have HO6 := Lib.hid ho6
       have HB6 : Hid (Below w1.heap.size w1 w6) := Lib.hid (HB15.out.trans (hb6.mono HSS.out))
       have HR6 := Lib.hid (HR5.out.below hb6 HR5.out.lt)
       have HS6 : Hid (w5.heap.size ≤ w6.heap.size) := Lib.hid hb6.size
       clear ho6 hb6)
    | (refine wpList_store_rowP rfl 26 (.tmp 2) (.tmp 13) rfl (g + 1) #[.int .i64 p, .int .i64 np, .int .i64 C, .slice B6 n6 k6] rfl rfl 26 #[.int .i64 0, .int .i64 0, .int .i64 0, .slice none 0 0] HR6.out Try.infoMx rfl (by simp [Value.oneCell']) ?_; intro w7 hb7 hg7)
    | fail)
  refine bodyPost_ret (results_rowP Try.results53 _ _ _ 26 #[.int .i64 p, .int .i64 np, .int .i64 C, .slice B6 n6 k6] _ rfl hb7 Try.underlying26 rfl Try.infoMx) rfl ?_
  have l1 := HSZ.out
  have l2 := HG.out
  have l3 := hg7.size
  have l4 := HS6.out
  have l5 := HB.out.size
  have l6 := HSS.out
  rw [← HNP.out]
  refine ⟨B6, n6, k6, rfl, ?_, ?_⟩
  · exact (HO6.out.grown hg7 (fun q hq => by injection hq with hq; omega)).wide (by omega) (by omega)
  · exact (HB.out.trans (HB6.out.mono l5)).grown hg7 (by omega) (by rintro q ⟨⟩; omega)
end Go.Proofs.Ytdepalpkcmfegaa

/-
  IsSpace on the document's side. Conditions: lengths below 2^40.
-/


namespace Go.Proofs.Ytdepalpkcmfegaa
open Go.RowKit

theorem isSpB_rows {p : Int} {R C : Nat} {xs : List Int} (h : matB p R C xs = true) (hl : xs.length = R * C) (hC : 0 < C) : (decide (R = spanN p C (rowsC xs C R C)) && eqL xs (spanX p C (rowsC xs C R C))) = isSpB p R C xs := by
  unfold isSpB eqL
  simp only [Int.toNat_natCast, h, true_and]
  by_cases e : spanX p C (rowsC xs C R C) = xs
  · have h1 : (spanX p C (rowsC xs C R C)).length = R * C := by rw [e]; exact hl
    unfold spanX at h1
    rw [flatK_len] at h1
    have h2 : spanN p C (rowsC xs C R C) = R := Nat.eq_of_mul_eq_mul_right hC h1
    simp [e, h2]
  · have e' : ¬ xs = spanX p C (rowsC xs C R C) := fun h => e h.symm
    simp [e, e']
set_option maxRecDepth 100000 in
set_option maxHeartbeats 1000000 in
theorem l7Same_any (p : Int) (R R' C : Nat) (A A' : Option Addr) (n k n' k' : Nat) (xs ys : List Int) (w : World) (hs : SI w A n xs) (hs' : SI w A' n' ys) (hn : n ≤ 1099511627776) (hn' : n' ≤ 1099511627776) :
    Calls Try.prog 117 #[.agg #[.int .i64 p, .int .i64 R, .int .i64 C, .slice A n k], .agg #[.int .i64 p, .int .i64 R', .int .i64 C, .slice A' n' k']] w fun e w' => e = .returned (.bool (decide (R = R') && eqL xs ys)) ∧ Below w.heap.size w w' := by
  obtain ⟨w1, hw1⟩ : ∃ w1, w1 = (w.alloc (.cells #[.int .i64 p, .int .i64 R, .int .i64 C, .slice A n k] 26)).alloc (.cells #[.int .i64 p, .int .i64 R', .int .i64 C, .slice A' n' k'] 26) := ⟨_, rfl⟩
  obtain ⟨g, hg⟩ : ∃ g, g = w.heap.size := ⟨_, rfl⟩
  have hk : Blk w1 g 26 #[.int .i64 p, .int .i64 R, .int .i64 C, .slice A n k] := by rw [hw1, hg]; exact (Blk.new _ _ _).alloc _
  have hk2 : Blk w1 (g + 1) 26 #[.int .i64 p, .int .i64 R', .int .i64 C, .slice A' n' k'] := by
    rw [hw1, hg]
    have := Blk.new (w.alloc (.cells #[.int .i64 p, .int .i64 R, .int .i64 C, .slice A n k] 26)) 26 #[.int .i64 p, .int .i64 R', .int .i64 C, .slice A' n' k']
    simpa using this
  have hb : Below w.heap.size w w1 := by rw [hw1]; go_grown
  have HB := Lib.hid hb
  have HW := Lib.hid hw1
  have HG := Lib.hid hg
  have HSM := Lib.hid (l1Same_any A A' n k n' k' xs ys w1 (hs.below hb (Nat.le_refl _)) (hs'.below hb (Nat.le_refl _)) hn hn')
  obtain ⟨q0, q1, q2, q3⟩ := cells4 hk
  obtain ⟨r0, r1, r2, r3⟩ := cells4 hk2
  clear hw1 hg hk hk2 hb hs hs'
  by_cases hR : R = R'
  case pos =>
    subst hR
    go_enter Try.func117, Try.ntmps117
    go_upto_region 1 with fail
    rw [← HW.out, ← HG.out]
    go_wp2_with (first
      | (go_at_call 140
         with_reducible refine HSM.out.mono ?_
         rintro e w2 ⟨rfl, hd2⟩
         have HB2 : Hid (Below w1.heap.size w1 w2) := Lib.hid (hd2.below _)
         clear hd2)
      | fail)
    go_ret
    exact ⟨ret_bool (by simp), HB.out.trans (HB2.out.mono HB.out.size)⟩
  case neg =>
    have hRI : ¬ (R : Int) = (R' : Int) := by omega
    have HRN := Lib.hid hR
    clear hR
    go_enter Try.func117, Try.ntmps117
    go_upto_region 1 with fail
    rw [← HW.out, ← HG.out]
    go_wp2_with fail
    go_ret
    exact ⟨ret_bool (by simp [HRN.out]), HB.out⟩
set_option maxRecDepth 100000 in
set_option maxHeartbeats 4000000 in
theorem specIsSpace_any (p r c : Int) (A : Option Addr) (n k : Nat) (xs : List Int) (w : World) (hs : SI w A n xs) (hn : n ≤ 1099511627776) :
    Calls Try.prog 75 #[.agg #[.int .i64 p, .int .i64 r, .int .i64 c, .slice A n k]] w fun e w' => e = .returned (.bool (isSpB p r c xs)) ∧ Below w.heap.size w w' := by
  obtain ⟨w1, hw1⟩ : ∃ w1, w1 = w.alloc (.cells #[.int .i64 p, .int .i64 r, .int .i64 c, .slice A n k] 26) := ⟨_, rfl⟩
  obtain ⟨g, hg⟩ : ∃ g, g = w.heap.size := ⟨_, rfl⟩
  have hk : Blk w1 g 26 #[.int .i64 p, .int .i64 r, .int .i64 c, .slice A n k] := by rw [hw1, hg]; exact Blk.new _ _ _
  have hb : Below w.heap.size w w1 := by rw [hw1]; exact Below.alloc_self _ _
  have HB := Lib.hid hb
  have HW := Lib.hid hw1
  have HG := Lib.hid hg
  have HK := Lib.hid hk
  have HS := Lib.hid (hs.below hb (Nat.le_refl _))
  have HMO := Lib.hid (fun w' (hb' : Below w1.heap.size w1 w') => specMatrixOk_any p r c A n k xs w' (HS.out.below hb' (Nat.le_refl _)) hn)
  have hqd : w1.drew.cell? ⟨g, 0, none⟩ = some (.int .i64 p) ∧ w1.drew.cell? ⟨g, 1, none⟩ = some (.int .i64 r) ∧ w1.drew.cell? ⟨g, 2, none⟩ = some (.int .i64 c) ∧ w1.drew.cell? ⟨g, 3, none⟩ = some (.slice A n k) := cells4 hk
  have HQD := Lib.hid hqd
  have HQ := Lib.hid (cells4 hk)
  clear hw1 hg hk hb hs hqd
  cases hm : matB p r c xs with
  | false =>
    rw [hm] at HMO
    have HM := Lib.hid hm
    clear hm
    go_enter Try.func75, Try.ntmps75
    go_upto_region 1 with fail
    rw [← HW.out, ← HG.out]
    obtain ⟨q0, q1, q2, q3⟩ := HQ.out
    first
      | (go_region_with (first
      | (go_at_call 62
         with_reducible refine (HMO.out _ ((Below.refl _ _).drew)).mono ?_
         rintro e w2 ⟨rfl, hb2⟩
         have HB2 : Hid (Below w1.heap.size w1 w2) := Lib.hid (((Below.refl _ _).drew).trans hb2)
         clear hb2)))
      | fail
    all_goals
      (go_wp2
       go_ret
       exact ⟨ret_bool (isSpB_no HM.out).symm, HB.out.trans (HB2.out.mono HB.out.size)⟩)
  | true =>
    rw [hm] at HMO
    have HM := Lib.hid (matB_P hm)
    obtain ⟨R, C, rfl, rfl, hR7, hC1, hC7, hxl⟩ := HM.out.nats
    have HF := Lib.hid (isSpB_rows hm hxl hC1)
    have HSP := Lib.hid (fun w' (hb' : Below w1.heap.size w1 w') => l7Span_any p R C A n k xs w' HM.out.1 (HS.out.below hb' (Nat.le_refl _)) (by omega) ⟨hC1, by omega⟩ HM.out.rg hxl)
    have HZL : Hid ((spanX p C (rowsC xs C R C)).length ≤ 1000) := Lib.hid (by
      obtain ⟨zp, zr, zc, z, hz⟩ := spn_ex p R C xs
      have h1 := hz.len
      obtain ⟨_, _, _, rfl⟩ := hz.1 hm
      simpa using h1)
    clear hm hxl
    go_enter Try.func75, Try.ntmps75
    go_upto_region 1 with fail
    rw [← HW.out, ← HG.out]
    go_region_held3 (fun w' => w'.cell? ⟨g, 0, none⟩ = some (.int .i64 p) ∧ w'.cell? ⟨g, 1, none⟩ = some (.int .i64 R) ∧ w'.cell? ⟨g, 2, none⟩ = some (.int .i64 C) ∧ w'.cell? ⟨g, 3, none⟩ = some (.slice A n k))
      (first | exact HQD.out | exact HQ.out | exact K2 | exact K3 | exact K4)
      (first
        | (go_at_call 117
           with_reducible refine HEQ.out.mono ?_
           rintro e w4 ⟨rfl, hb4⟩
           have HB4 : Hid (Below w1.heap.size w1 w4) := Lib.hid (HB3.out.trans (hb4.mono HB3.out.size))
           have K4 := cells4 (HK.out.below HB4.out HK.out.lt)
           clear hb4)
        | (go_at_call 53
           with_reducible refine (HSP.out _ HB2.out).mono ?_
           rintro e w3 ⟨B3, m3, d3, rfl, ho3, hb3⟩
           have HB3 : Hid (Below w1.heap.size w1 w3) := Lib.hid (HB2.out.trans (hb3.mono HB2.out.size))
           have K3 := cells4 (HK.out.below HB3.out HK.out.lt)
           have HO3 := Lib.hid ho3
           have HEQ := Lib.hid (l7Same_any p R (spanN p C (rowsC xs C R C)) C A B3 n k m3 d3 xs (spanX p C (rowsC xs C R C)) w3 (HS.out.below HB3.out (Nat.le_refl _)) HO3.out.si hn (by have := HO3.out.len; have := HZL.out; omega))
           clear ho3 hb3)
        | (go_at_call 62
           with_reducible refine (HMO.out _ ((Below.refl _ _).drew)).mono ?_
           rintro e w2 ⟨rfl, hb2⟩
           have HB2 : Hid (Below w1.heap.size w1 w2) := Lib.hid (((Below.refl _ _).drew).trans hb2)
           have K2 := cells4 (HK.out.below HB2.out HK.out.lt)
           clear hb2))
    go_wp2
    go_ret
    exact ⟨ret_bool HF.out, HB.out.trans (HB4.out.mono HB.out.size)⟩
end Go.Proofs.Ytdepalpkcmfegaa

/-
  Two spaces of one kind, on both sides. Conditions: lengths below 2^40.
-/

namespace Go.Proofs.Ytdepalpkcmfegaa
open Go.RowKit

/-- Do two spaces lie in one. -/
def twoB (p r c : Int) (xs : List Int) (p' r' c' : Int) (ys : List Int) : Bool := isSpB p r c xs && (isSpB p' r' c' ys && (decide (p = p') && decide (c = c')))
set_option maxHeartbeats 1000000 in
theorem hasRowsLike_any (p r c p' r' c' : Int) (A A' : Option Addr) (n k n' k' : Nat) (w : World) :
    Calls Try.prog 72 #[.agg #[.int .i64 p, .int .i64 r, .int .i64 c, .slice A n k], .agg #[.int .i64 p', .int .i64 r', .int .i64 c', .slice A' n' k']] w fun e w' => e = .returned (.bool (decide (p = p') && decide (c = c'))) ∧ Below w.heap.size w w' := by
  obtain ⟨w1, hw1⟩ : ∃ w1, w1 = (w.alloc (.cells #[.int .i64 p, .int .i64 r, .int .i64 c, .slice A n k] 26)).alloc (.cells #[.int .i64 p', .int .i64 r', .int .i64 c', .slice A' n' k'] 26) := ⟨_, rfl⟩
  obtain ⟨g, hg⟩ : ∃ g, g = w.heap.size := ⟨_, rfl⟩
  have hk : Blk w1 g 26 #[.int .i64 p, .int .i64 r, .int .i64 c, .slice A n k] := by rw [hw1, hg]; exact (Blk.new _ _ _).alloc _
  have hk2 : Blk w1 (g + 1) 26 #[.int .i64 p', .int .i64 r', .int .i64 c', .slice A' n' k'] := by
    rw [hw1, hg]
    have := Blk.new (w.alloc (.cells #[.int .i64 p, .int .i64 r, .int .i64 c, .slice A n k] 26)) 26 #[.int .i64 p', .int .i64 r', .int .i64 c', .slice A' n' k']
    simpa using this
  have hb : Below w.heap.size w w1 := by rw [hw1]; go_grown
  have HB := Lib.hid hb
  have HW := Lib.hid hw1
  have HG := Lib.hid hg
  have HK := Lib.hid hk
  have HK2 := Lib.hid hk2
  obtain ⟨q0, q1, q2, q3⟩ := cells4 hk
  obtain ⟨r0, r1, r2, r3⟩ := cells4 hk2
  clear hw1 hg hk hk2 hb
  by_cases hp : p = p'
  case pos =>
    subst hp
    go_enter Try.func72, Try.ntmps72
    go_upto_region 1 with fail
    rw [← HW.out, ← HG.out]
    go_wp2_with fail
    go_ret
    exact ⟨ret_bool (by by_cases e : c = c' <;> simp [e]), HB.out⟩
  case neg =>
    have HP := Lib.hid hp
    go_enter Try.func72, Try.ntmps72
    go_upto_region 1 with fail
    rw [← HW.out, ← HG.out]
    go_wp2_with fail
    go_ret
    exact ⟨ret_bool (by simp [HP.out]), HB.out⟩
set_option maxRecDepth 100000 in
set_option maxHeartbeats 2000000 in
theorem areSpaces_any (p r c p' r' c' : Int) (A A' : Option Addr) (n k n' k' : Nat) (xs ys : List Int) (w : World) (hs : SI w A n xs) (hs' : SI w A' n' ys) (hn : n ≤ 1099511627776) (hn' : n' ≤ 1099511627776) (hnk : n ≤ k) (hnk' : n' ≤ k') :
    Calls Try.prog 55 #[.agg #[.int .i64 p, .int .i64 r, .int .i64 c, .slice A n k], .agg #[.int .i64 p', .int .i64 r', .int .i64 c', .slice A' n' k']] w fun e w' => e = .returned (.bool (twoB p r c xs p' r' c' ys)) ∧ Below w.heap.size w w' := by
  obtain ⟨w1, hw1⟩ : ∃ w1, w1 = (w.alloc (.cells #[.int .i64 p, .int .i64 r, .int .i64 c, .slice A n k] 26)).alloc (.cells #[.int .i64 p', .int .i64 r', .int .i64 c', .slice A' n' k'] 26) := ⟨_, rfl⟩
  obtain ⟨g, hg⟩ : ∃ g, g = w.heap.size := ⟨_, rfl⟩
  have hk : Blk w1 g 26 #[.int .i64 p, .int .i64 r, .int .i64 c, .slice A n k] := by rw [hw1, hg]; exact (Blk.new _ _ _).alloc _
  have hk2 : Blk w1 (g + 1) 26 #[.int .i64 p', .int .i64 r', .int .i64 c', .slice A' n' k'] := by
    rw [hw1, hg]
    have := Blk.new (w.alloc (.cells #[.int .i64 p, .int .i64 r, .int .i64 c, .slice A n k] 26)) 26 #[.int .i64 p', .int .i64 r', .int .i64 c', .slice A' n' k']
    simpa using this
  have hb : Below w.heap.size w w1 := by rw [hw1]; go_grown
  have HB := Lib.hid hb
  have HW := Lib.hid hw1
  have HG := Lib.hid hg
  have HK := Lib.hid hk
  have HK2 := Lib.hid hk2
  have HS := Lib.hid (hs.below hb (Nat.le_refl _))
  have HS' := Lib.hid (hs'.below hb (Nat.le_refl _))
  have HI1 := Lib.hid (implIsSpace_any p r c A n k xs w1 (hs.below hb (Nat.le_refl _)) hn hnk)
  have HI2 := Lib.hid (fun w' (hb' : Below w1.heap.size w1 w') => implIsSpace_any p' r' c' A' n' k' ys w' (HS'.out.below hb' (Nat.le_refl _)) hn' hnk')
  clear hw1 hg hk hk2 hb hs hs'
  cases hu : isSpB p r c xs with
  | false =>
    rw [hu] at HI1
    have HU := Lib.hid hu
    clear hu
    go_enter Try.func55, Try.ntmps55
    go_upto_region 1 with fail
    rw [← HW.out, ← HG.out]
    go_wp2_with (first
      | (refine wpList_load_rowP rfl 26 (.tmp 2) rfl g rfl 26 #[.int .i64 p, .int .i64 r, .int .i64 c, .slice A n k] _ HK.out Try.underlying26 rfl Try.infoMx ?_)
      | (go_at_call 104
         with_reducible refine HI1.out.mono ?_
         rintro e w2 ⟨rfl, hb2⟩
         have HB2 := Lib.hid hb2
         obtain ⟨q0, q1, q2, q3⟩ := cells4 (HK.out.below hb2 HK.out.lt)
         obtain ⟨r0, r1, r2, r3⟩ := cells4 (HK2.out.below hb2 HK2.out.lt)
         clear hb2)
      | fail)
    go_ret
    exact ⟨ret_bool (by unfold twoB; rw [HU.out]; rfl), HB.out.trans (HB2.out.mono HB.out.size)⟩
  | true =>
    rw [hu] at HI1
    have HU := Lib.hid hu
    clear hu
    cases hv : isSpB p' r' c' ys with
    | false =>
      rw [hv] at HI2
      have HV := Lib.hid hv
      clear hv
      go_enter Try.func55, Try.ntmps55
      go_upto_region 1 with fail
      rw [← HW.out, ← HG.out]
      go_wp2_with (first
      | (refine wpList_load_rowP rfl 26 (.tmp 2) rfl g rfl 26 #[.int .i64 p, .int .i64 r, .int .i64 c, .slice A n k] _ HK.out Try.underlying26 rfl Try.infoMx ?_)
      | (go_at_call 104
         with_reducible refine HI1.out.mono ?_
         rintro e w2 ⟨rfl, hb2⟩
         have HB2 := Lib.hid hb2
         obtain ⟨q0, q1, q2, q3⟩ := cells4 (HK.out.below hb2 HK.out.lt)
         obtain ⟨r0, r1, r2, r3⟩ := cells4 (HK2.out.below hb2 HK2.out.lt)
         clear hb2)
      | (go_at_call 104
         with_reducible refine (HI2.out _ HB2.out).mono ?_
         rintro e w3 ⟨rfl, hb3⟩
         have HB3 : Hid (Below w1.heap.size w1 w3) := Lib.hid (HB2.out.trans (hb3.mono HB2.out.size))
         clear q0 q1 q2 q3 r0 r1 r2 r3
         obtain ⟨q0, q1, q2, q3⟩ := cells4 (HK.out.below HB3.out HK.out.lt)
         obtain ⟨r0, r1, r2, r3⟩ := cells4 (HK2.out.below HB3.out HK2.out.lt)
         clear hb3)
        | fail)
      go_ret
      exact ⟨ret_bool (by unfold twoB; rw [HU.out, HV.out]; rfl), HB.out.trans (HB3.out.mono HB.out.size)⟩
    | true =>
      rw [hv] at HI2
      have HV := Lib.hid hv
      clear hv
      go_enter Try.func55, Try.ntmps55
      go_upto_region 1 with fail
      rw [← HW.out, ← HG.out]
      go_wp2_with (first
      | (refine wpList_load_rowP rfl 26 (.tmp 2) rfl g rfl 26 #[.int .i64 p, .int .i64 r, .int .i64 c, .slice A n k] _ HK.out Try.underlying26 rfl Try.infoMx ?_)
      | (go_at_call 104
         with_reducible refine HI1.out.mono ?_
         rintro e w2 ⟨rfl, hb2⟩
         have HB2 := Lib.hid hb2
         obtain ⟨q0, q1, q2, q3⟩ := cells4 (HK.out.below hb2 HK.out.lt)
         obtain ⟨r0, r1, r2, r3⟩ := cells4 (HK2.out.below hb2 HK2.out.lt)
         clear hb2)
      | (go_at_call 104
         with_reducible refine (HI2.out _ HB2.out).mono ?_
         rintro e w3 ⟨rfl, hb3⟩
         have HB3 : Hid (Below w1.heap.size w1 w3) := Lib.hid (HB2.out.trans (hb3.mono HB2.out.size))
         clear q0 q1 q2 q3 r0 r1 r2 r3
         obtain ⟨q0, q1, q2, q3⟩ := cells4 (HK.out.below HB3.out HK.out.lt)
         obtain ⟨r0, r1, r2, r3⟩ := cells4 (HK2.out.below HB3.out HK2.out.lt)
         clear hb3)
        | (go_at_call 72
           with_reducible refine (hasRowsLike_any p r c p' r' c' A A' n k n' k' w3).mono ?_
           rintro e w4 ⟨rfl, hb4⟩
           have HB4 : Hid (Below w1.heap.size w1 w4) := Lib.hid (HB3.out.trans (hb4.mono HB3.out.size))
           clear hb4)
        | fail)
      go_ret
      exact ⟨ret_bool (by unfold twoB; rw [HU.out, HV.out]; rfl), HB.out.trans (HB4.out.mono HB.out.size)⟩
set_option maxRecDepth 100000 in
set_option maxHeartbeats 2000000 in
theorem l7Two_any (p r c p' r' c' : Int) (A A' : Option Addr) (n k n' k' : Nat) (xs ys : List Int) (w : World) (hs : SI w A n xs) (hs' : SI w A' n' ys) (hn : n ≤ 1099511627776) (hn' : n' ≤ 1099511627776) :
    Calls Try.prog 52 #[.agg #[.int .i64 p, .int .i64 r, .int .i64 c, .slice A n k], .agg #[.int .i64 p', .int .i64 r', .int .i64 c', .slice A' n' k']] w fun e w' => e = .returned (.bool (twoB p r c xs p' r' c' ys)) ∧ Below w.heap.size w w' := by
  obtain ⟨w1, hw1⟩ : ∃ w1, w1 = (w.alloc (.cells #[.int .i64 p, .int .i64 r, .int .i64 c, .slice A n k] 26)).alloc (.cells #[.int .i64 p', .int .i64 r', .int .i64 c', .slice A' n' k'] 26) := ⟨_, rfl⟩
  obtain ⟨g, hg⟩ : ∃ g, g = w.heap.size := ⟨_, rfl⟩
  have hk : Blk w1 g 26 #[.int .i64 p, .int .i64 r, .int .i64 c, .slice A n k] := by rw [hw1, hg]; exact (Blk.new _ _ _).alloc _
  have hk2 : Blk w1 (g + 1) 26 #[.int .i64 p', .int .i64 r', .int .i64 c', .slice A' n' k'] := by
    rw [hw1, hg]
    have := Blk.new (w.alloc (.cells #[.int .i64 p, .int .i64 r, .int .i64 c, .slice A n k] 26)) 26 #[.int .i64 p', .int .i64 r', .int .i64 c', .slice A' n' k']
    simpa using this
  have hb : Below w.heap.size w w1 := by rw [hw1]; go_grown
  have HB := Lib.hid hb
  have HW := Lib.hid hw1
  have HG := Lib.hid hg
  have HK := Lib.hid hk
  have HK2 := Lib.hid hk2
  have HS := Lib.hid (hs.below hb (Nat.le_refl _))
  have HS' := Lib.hid (hs'.below hb (Nat.le_refl _))
  have HI1 := Lib.hid (specIsSpace_any p r c A n k xs w1 (hs.below hb (Nat.le_refl _)) hn)
  have HI2 := Lib.hid (fun w' (hb' : Below w1.heap.size w1 w') => specIsSpace_any p' r' c' A' n' k' ys w' (HS'.out.below hb' (Nat.le_refl _)) hn')
  clear hw1 hg hk hk2 hb hs hs'
  cases hu : isSpB p r c xs with
  | false =>
    rw [hu] at HI1
    have HU := Lib.hid hu
    clear hu
    go_enter Try.func52, Try.ntmps52
    go_upto_region 1 with fail
    rw [← HW.out, ← HG.out]
    go_wp2_with (first
      | (refine wpList_load_rowP rfl 26 (.tmp 2) rfl g rfl 26 #[.int .i64 p, .int .i64 r, .int .i64 c, .slice A n k] _ HK.out Try.underlying26 rfl Try.infoMx ?_)
      | (go_at_call 75
         with_reducible refine HI1.out.mono ?_
         rintro e w2 ⟨rfl, hb2⟩
         have HB2 := Lib.hid hb2
         obtain ⟨q0, q1, q2, q3⟩ := cells4 (HK.out.below hb2 HK.out.lt)
         obtain ⟨r0, r1, r2, r3⟩ := cells4 (HK2.out.below hb2 HK2.out.lt)
         clear hb2)
      | fail)
    go_ret
    exact ⟨ret_bool (by unfold twoB; rw [HU.out]; rfl), HB.out.trans (HB2.out.mono HB.out.size)⟩
  | true =>
    rw [hu] at HI1
    have HU := Lib.hid hu
    clear hu
    cases hv : isSpB p' r' c' ys with
    | false =>
      rw [hv] at HI2
      have HV := Lib.hid hv
      clear hv
      go_enter Try.func52, Try.ntmps52
      go_upto_region 1 with fail
      rw [← HW.out, ← HG.out]
      go_wp2_with (first
      | (refine wpList_load_rowP rfl 26 (.tmp 2) rfl g rfl 26 #[.int .i64 p, .int .i64 r, .int .i64 c, .slice A n k] _ HK.out Try.underlying26 rfl Try.infoMx ?_)
      | (go_at_call 75
         with_reducible refine HI1.out.mono ?_
         rintro e w2 ⟨rfl, hb2⟩
         have HB2 := Lib.hid hb2
         obtain ⟨q0, q1, q2, q3⟩ := cells4 (HK.out.below hb2 HK.out.lt)
         obtain ⟨r0, r1, r2, r3⟩ := cells4 (HK2.out.below hb2 HK2.out.lt)
         clear hb2)
      | (go_at_call 75
         with_reducible refine (HI2.out _ HB2.out).mono ?_
         rintro e w3 ⟨rfl, hb3⟩
         have HB3 : Hid (Below w1.heap.size w1 w3) := Lib.hid (HB2.out.trans (hb3.mono HB2.out.size))
         clear q0 q1 q2 q3 r0 r1 r2 r3
         obtain ⟨q0, q1, q2, q3⟩ := cells4 (HK.out.below HB3.out HK.out.lt)
         obtain ⟨r0, r1, r2, r3⟩ := cells4 (HK2.out.below HB3.out HK2.out.lt)
         clear hb3)
        | fail)
      go_ret
      exact ⟨ret_bool (by unfold twoB; rw [HU.out, HV.out]; rfl), HB.out.trans (HB3.out.mono HB.out.size)⟩
    | true =>
      rw [hv] at HI2
      have HV := Lib.hid hv
      clear hv
      by_cases hp : p = p'
      case pos =>
        subst hp
        go_enter Try.func52, Try.ntmps52
        go_upto_region 1 with fail
        rw [← HW.out, ← HG.out]
        go_wp2_with (first
      | (refine wpList_load_rowP rfl 26 (.tmp 2) rfl g rfl 26 #[.int .i64 p, .int .i64 r, .int .i64 c, .slice A n k] _ HK.out Try.underlying26 rfl Try.infoMx ?_)
      | (go_at_call 75
         with_reducible refine HI1.out.mono ?_
         rintro e w2 ⟨rfl, hb2⟩
         have HB2 := Lib.hid hb2
         obtain ⟨q0, q1, q2, q3⟩ := cells4 (HK.out.below hb2 HK.out.lt)
         obtain ⟨r0, r1, r2, r3⟩ := cells4 (HK2.out.below hb2 HK2.out.lt)
         clear hb2)
      | (go_at_call 75
         with_reducible refine (HI2.out _ HB2.out).mono ?_
         rintro e w3 ⟨rfl, hb3⟩
         have HB3 : Hid (Below w1.heap.size w1 w3) := Lib.hid (HB2.out.trans (hb3.mono HB2.out.size))
         clear q0 q1 q2 q3 r0 r1 r2 r3
         obtain ⟨q0, q1, q2, q3⟩ := cells4 (HK.out.below HB3.out HK.out.lt)
         obtain ⟨r0, r1, r2, r3⟩ := cells4 (HK2.out.below HB3.out HK2.out.lt)
         clear hb3)
          | fail)
        go_ret
        exact ⟨ret_bool (by unfold twoB; rw [HU.out, HV.out]; by_cases e : c = c' <;> simp [e]), HB.out.trans (HB3.out.mono HB.out.size)⟩
      case neg =>
        have HP := Lib.hid hp
        go_enter Try.func52, Try.ntmps52
        go_upto_region 1 with fail
        rw [← HW.out, ← HG.out]
        go_wp2_with (first
      | (refine wpList_load_rowP rfl 26 (.tmp 2) rfl g rfl 26 #[.int .i64 p, .int .i64 r, .int .i64 c, .slice A n k] _ HK.out Try.underlying26 rfl Try.infoMx ?_)
      | (go_at_call 75
         with_reducible refine HI1.out.mono ?_
         rintro e w2 ⟨rfl, hb2⟩
         have HB2 := Lib.hid hb2
         obtain ⟨q0, q1, q2, q3⟩ := cells4 (HK.out.below hb2 HK.out.lt)
         obtain ⟨r0, r1, r2, r3⟩ := cells4 (HK2.out.below hb2 HK2.out.lt)
         clear hb2)
      | (go_at_call 75
         with_reducible refine (HI2.out _ HB2.out).mono ?_
         rintro e w3 ⟨rfl, hb3⟩
         have HB3 : Hid (Below w1.heap.size w1 w3) := Lib.hid (HB2.out.trans (hb3.mono HB2.out.size))
         clear q0 q1 q2 q3 r0 r1 r2 r3
         obtain ⟨q0, q1, q2, q3⟩ := cells4 (HK.out.below HB3.out HK.out.lt)
         obtain ⟨r0, r1, r2, r3⟩ := cells4 (HK2.out.below HB3.out HK2.out.lt)
         clear hb3)
          | fail)
        go_ret
        exact ⟨ret_bool (by simp [twoB, HU.out, HV.out, HP.out]), HB.out.trans (HB3.out.mono HB.out.size)⟩
end Go.Proofs.Ytdepalpkcmfegaa

/-
  An append of any slice, also an empty one, at a step of a region that draws its order. Conditions: lengths below 2^40.
-/


namespace Go.Proofs.Ytdepalpkcmfegaa
open Go.RowKit

set_option maxRecDepth 100000 in
theorem wp_append_any (w : World) {o : Oper} {a : Act} {K : Act → World → Prop} {Q : Exit → Act → World → Prop} (s x : Operand)
    (ho : o.op = .call { callee := .builtin .append, args := #[s, x], argTypes := #[22, 22] })
    (lo : Nat) (A : Option Addr) (n c : Nat) (xs : List Int) (A2 : Option Addr) (m c2 : Nat) (ys : List Int) (hs : a.eval s = .slice A n c) (hx : a.eval x = .slice A2 m c2)
    (hown : Own w lo w.heap.size A n c xs) (hsi : SI w A2 m ys) (hlo : lo ≤ w.heap.size) (hn : n ≤ 1099511627776) (hm : m ≤ 1099511627776)
    (h : ∀ A' c' w', Own w' lo w'.heap.size A' (n + m) c' (xs ++ ys) → w.grownBy w' (Value.slice A n c).ownBlock → Below lo w w' → K (a.put o.dst (.slice A' (n + m) c')) w') :
    o.wp Try.prog a w K Q := by
  obtain ⟨i0, hi, hz0, hz1, hz2⟩ := info_parts Try.infoInt
  by_cases h0 : 0 < m
  · obtain ⟨b, off, rfl, hb, hc⟩ := hsi.2 h0
    refine wp_append_lies w s x 22 ho lo 3 i0 (.int .i64 0) 1 8 Try.underlying22 hi hz0 hz1 hz2 rfl (by decide) (.slice A n c) n _ hs hown.1 ⟨b, off, none⟩ m c2 (ys.map (Value.int .i64)) hx (by simp [hsi.1]) ?_ (ints_oneCell _ _) h0 (by unfold maxLen; omega) (by omega) hlo w.heap.size rfl ?_
    · intro j u hj
      have hjl : j < ys.length := by
        rcases Nat.lt_or_ge j ys.length with h | h
        · exact h
        · rw [List.getElem?_eq_none (by simpa using h)] at hj; cases hj
      rw [List.getElem?_map, nth_get? hjl] at hj
      rw [add_pt, hc j (by have := hsi.1; omega)]
      exact hj
    · intro g cap w1 ho1 hg1 _ _
      rw [← List.map_append] at ho1
      exact h _ _ w1 (Own.of ho1) hg1 (grow_below hg1 hlo (fun k hk => (hown.1.lt k hk).1))
  · have hm0 : m = 0 := by omega
    subst hm0
    have hy : ys = [] := List.eq_nil_of_length_eq_zero hsi.1
    subst hy
    have hk0 := h A c w (by simpa using hown) (World.grownBy.refl _ _) (Below.refl _ _)
    have hrun : (Builtin.append_ #[22, 22] o.type #[.slice A n c, .slice A2 0 c2]).run Try.prog w = .ok (.slice A n c) w := by
      have hg := hown.1
      have hl0 : ∀ v, (loadCells v 0).run Try.prog w = .ok #[] w := fun v => by simp [loadCells, loadCellsFrom]
      rcases hg.2 with ⟨e, h0⟩ | ⟨g, cap, cur, e, _, hgg, hnc, _⟩
      · injection e with e1 e2 e3
        subst e1; subst e3; subst h0
        cases A2 <;> simp [Builtin.append_, run_underlying Try.underlying22, sizeOf, typeInfo, hi, Builtin.lenOf, Builtin.firstCells, hl0]
      · injection e with e1 e2 e3
        subst e1; subst e3
        cases A2 <;> simp [Builtin.append_, run_underlying Try.underlying22, sizeOf, typeInfo, hi, Builtin.lenOf, Builtin.firstCells, hnc, storeCells, hl0]
    unfold Oper.wp execOp
    simp only [ho, resolve, invoke, builtin, Sem.run_bind, Sem.run_pure, Result.andThen_ok, List.map_toArray, List.map_cons, List.map_nil, hs, hx, hrun]
    exact hk0
theorem step_append_any (w : World) {ops : Array Oper} {o : Oper} {a : Act} {K : Act → World → Prop} {Q : Exit → Act → World → Prop} {E0 : Prop} (hw : Region.wanted o (yielded ops a.tmps) = true) (s x : Operand)
    (ho : o.op = .call { callee := .builtin .append, args := #[s, x], argTypes := #[22, 22] })
    (lo : Nat) (A : Option Addr) (n c : Nat) (xs : List Int) (A2 : Option Addr) (m c2 : Nat) (ys : List Int) (hs : a.eval s = .slice A n c) (hx : a.eval x = .slice A2 m c2)
    (hown : Own w lo w.heap.size A n c xs) (hsi : SI w A2 m ys) (hlo : lo ≤ w.heap.size) (hn : n ≤ 1099511627776) (hm : m ≤ 1099511627776)
    (h : ∀ A' c' w', Own w' lo w'.heap.size A' (n + m) c' (xs ++ ys) → w.grownBy w' (Value.slice A n c).ownBlock → Below lo w w' → K (a.put o.dst (.slice A' (n + m) c')) w') :
    if Region.wanted o (yielded ops a.tmps) = true then Oper.wp Try.prog o a w K Q else E0 := by
  rw [if_pos hw]
  exact wp_append_any w s x ho lo A n c xs A2 m c2 ys hs hx hown hsi hlo hn hm h
end Go.Proofs.Ytdepalpkcmfegaa

/-
  The rows of two matrices in one, on the document's side. Conditions: sizes at most 14.
-/


namespace Go.Proofs.Ytdepalpkcmfegaa
open Go.RowKit

set_option maxRecDepth 100000 in
set_option maxHeartbeats 4000000 in
theorem l7Both_any (p p' c' : Int) (C R R' : Nat) (A A' : Option Addr) (n k n' k' : Nat) (xs ys : List Int) (w : World) (hs : SI w A n xs) (hs' : SI w A' n' ys) (hn : n ≤ 1000) (hn' : n' ≤ 1000) (hR : R ≤ 14) (hR' : R' ≤ 14) :
    Calls Try.prog 54 #[.agg #[.int .i64 p, .int .i64 R, .int .i64 C, .slice A n k], .agg #[.int .i64 p', .int .i64 R', .int .i64 c', .slice A' n' k']] w fun e w' => FreshMx w w' e p ((R + R' : Nat) : Int) C (xs ++ ys) := by
  obtain ⟨w1, hw1⟩ : ∃ w1, w1 = ((w.alloc (.cells #[.int .i64 p, .int .i64 R, .int .i64 C, .slice A n k] 26)).alloc (.cells #[.int .i64 p', .int .i64 R', .int .i64 c', .slice A' n' k'] 26)).alloc (.cells #[.int .i64 0, .int .i64 0, .int .i64 0, .slice none 0 0] 26) := ⟨_, rfl⟩
  obtain ⟨g, hg⟩ : ∃ g, g = w.heap.size := ⟨_, rfl⟩
  have hk : Blk w1 g 26 #[.int .i64 p, .int .i64 R, .int .i64 C, .slice A n k] := by rw [hw1, hg]; exact ((Blk.new _ _ _).alloc _).alloc _
  have hk2 : Blk w1 (g + 1) 26 #[.int .i64 p', .int .i64 R', .int .i64 c', .slice A' n' k'] := by
    rw [hw1, hg]
    have := (Blk.new (w.alloc (.cells #[.int .i64 p, .int .i64 R, .int .i64 C, .slice A n k] 26)) 26 #[.int .i64 p', .int .i64 R', .int .i64 c', .slice A' n' k']).alloc (.cells #[.int .i64 0, .int .i64 0, .int .i64 0, .slice none 0 0] 26)
    simpa using this
  have hk3 : Blk w1 (g + 2) 26 #[.int .i64 0, .int .i64 0, .int .i64 0, .slice none 0 0] := by
    rw [hw1, hg]
    have := Blk.new ((w.alloc (.cells #[.int .i64 p, .int .i64 R, .int .i64 C, .slice A n k] 26)).alloc (.cells #[.int .i64 p', .int .i64 R', .int .i64 c', .slice A' n' k'] 26)) 26 #[.int .i64 0, .int .i64 0, .int .i64 0, .slice none 0 0]
    simpa using this
  have hb : Below w.heap.size w w1 := by rw [hw1]; go_grown
  obtain ⟨S, hS⟩ : ∃ S, S = R + R' := ⟨_, rfl⟩
  rw [← hS]
  have hwr : IntKind.i64.wrap ((R : Int) + (R' : Int)) = (S : Int) := by
    have e : (R : Int) + (R' : Int) = (S : Int) := by omega
    rw [e]; exact IntWalk.i64_in _ (by omega)
  have HB1 := Lib.hid hb
  have HW := Lib.hid hw1
  have HG := Lib.hid hg
  have HK := Lib.hid hk
  have HK2 := Lib.hid hk2
  have HK3 := Lib.hid hk3
  have HXL := Lib.hid hs.1
  have HSA := Lib.hid (hs.below hb (Nat.le_refl _))
  have HSB := Lib.hid (hs'.below hb (Nat.le_refl _))
  have HSZ : Hid (w1.heap.size = g + 3) := Lib.hid (by rw [hw1, hg]; simp)
  have hcells : ∀ w', Blk w' g 26 #[.int .i64 p, .int .i64 R, .int .i64 C, .slice A n k] → Blk w' (g + 1) 26 #[.int .i64 p', .int .i64 R', .int .i64 c', .slice A' n' k'] → (w'.cell? ⟨g, 0, none⟩ = some (.int .i64 p) ∧ w'.cell? ⟨g, 1, none⟩ = some (.int .i64 R) ∧ w'.cell? ⟨g, 2, none⟩ = some (.int .i64 C) ∧ w'.cell? ⟨g, 3, none⟩ = some (.slice A n k)) ∧ w'.cell? ⟨g + 1, 1, none⟩ = some (.int .i64 R') ∧ w'.cell? ⟨g + 1, 3, none⟩ = some (.slice A' n' k') :=
    fun w' h1 h2 => ⟨cells4 h1, h2.cell 1, h2.cell 3⟩
  have HCE := Lib.hid hcells
  have HQD : Hid ((w1.drew.cell? ⟨g, 0, none⟩ = some (.int .i64 p) ∧ w1.drew.cell? ⟨g, 1, none⟩ = some (.int .i64 R) ∧ w1.drew.cell? ⟨g, 2, none⟩ = some (.int .i64 C) ∧ w1.drew.cell? ⟨g, 3, none⟩ = some (.slice A n k)) ∧ w1.drew.cell? ⟨g + 1, 1, none⟩ = some (.int .i64 R') ∧ w1.drew.cell? ⟨g + 1, 3, none⟩ = some (.slice A' n' k')) := Lib.hid (hcells w1 hk hk2)
  have HQ := Lib.hid (hcells w1 hk hk2)
  have HC1 := Lib.hid (fun w' (hb' : Below w1.heap.size w1 w') => l1Ints_any A n k xs w' (HSA.out.below hb' (Nat.le_refl _)) (by omega))
  clear hw1 hg hk hk2 hk3 hb hs hs' hcells hS
  go_enter Try.func54, Try.ntmps54
  go_upto_region 1 with fail
  rw [← HW.out, ← HG.out]
  go_region_held3 (fun w' => (w'.cell? ⟨g, 0, none⟩ = some (.int .i64 p) ∧ w'.cell? ⟨g, 1, none⟩ = some (.int .i64 R) ∧ w'.cell? ⟨g, 2, none⟩ = some (.int .i64 C) ∧ w'.cell? ⟨g, 3, none⟩ = some (.slice A n k)) ∧ w'.cell? ⟨g + 1, 1, none⟩ = some (.int .i64 R') ∧ w'.cell? ⟨g + 1, 3, none⟩ = some (.slice A' n' k'))
    (first | exact HQD.out | exact HQ.out | exact K4 | exact K6 | exact KZ)
    (first
      | (refine step_append_any _ (by first | rfl | kernel_rfl | simp [Region.wanted, yielded]) (.tmp 16) (.tmp 18) (by rfl) w1.heap.size B1 m1 d1 xs A' n' k' ys (by first | rfl | simp [Act.eval, Act.put]) (by first | rfl | simp [Act.eval, Act.put]) HO4.out HSB4.out HL4.out HM1.out HN2.out ?_
         intro B6 d6 w6 ho6 hg6 hb6
         have HO6 := Lib.hid ho6
         have HB6 : Hid (Below w1.heap.size w1 w6) := Lib.hid (HB4.out.trans hb6)
         have HKA := Lib.hid (HK.out.below HB6.out HK.out.lt)
         have HKB := Lib.hid (HK2.out.below HB6.out HK2.out.lt)
         have K6 := HCE.out w6 HKA.out HKB.out
         have HR6 := Lib.hid (HK3.out.below HB6.out HK3.out.lt)
         obtain ⟨rr0, rr1, rr2, rr3⟩ := cells4 HR6.out
         obtain ⟨ff0, ff1, ff2, ff3⟩ := frozenM HR6.out
         have KZ := HCE.out _ ((((HKA.out.far (p := ⟨g + 2, 0, none⟩) (by show g ≠ g + 2; omega) (.int .i64 p)).far (p := ⟨g + 2, 1, none⟩) (by show g ≠ g + 2; omega) (.int .i64 S)).far (p := ⟨g + 2, 2, none⟩) (by show g ≠ g + 2; omega) (.int .i64 C)).far (p := ⟨g + 2, 3, none⟩) (by show g ≠ g + 2; omega) (.slice B6 (m1 + n') d6)) ((((HKB.out.far (p := ⟨g + 2, 0, none⟩) (by show g + 1 ≠ g + 2; omega) (.int .i64 p)).far (p := ⟨g + 2, 1, none⟩) (by show g + 1 ≠ g + 2; omega) (.int .i64 S)).far (p := ⟨g + 2, 2, none⟩) (by show g + 1 ≠ g + 2; omega) (.int .i64 C)).far (p := ⟨g + 2, 3, none⟩) (by show g + 1 ≠ g + 2; omega) (.slice B6 (m1 + n') d6))
         have HRP : Hid (Blk ((((w6.setCell ⟨g + 2, 0, none⟩ (.int .i64 p)).setCell ⟨g + 2, 1, none⟩ (.int .i64 S)).setCell ⟨g + 2, 2, none⟩ (.int .i64 C)).setCell ⟨g + 2, 3, none⟩ (.slice B6 (m1 + n') d6)) (g + 2) 26 #[.int .i64 p, .int .i64 S, .int .i64 C, .slice B6 (m1 + n') d6]) := Lib.hid ((((HR6.out.set_ 0 _).set_ 1 _).set_ 2 _).set_ 3 _)
         have HGP := Lib.hid (grown_putM w6 (g + 2) (.int .i64 p) (.int .i64 S) (.int .i64 C) (.slice B6 (m1 + n') d6))
         clear ho6 hg6 hb6)
      | (go_at_call 103
         with_reducible refine (HC1.out _ ((Below.refl _ _).drew)).mono ?_
         rintro e w4 ⟨B1, m1, d1, rfl, ho4, hb4⟩
         have HB4 : Hid (Below w1.heap.size w1 w4) := Lib.hid (((Below.refl _ _).drew).trans hb4)
         have K4 := HCE.out w4 (HK.out.below HB4.out HK.out.lt) (HK2.out.below HB4.out HK2.out.lt)
         have HO4 : Hid (Own w4 w1.heap.size w4.heap.size B1 m1 d1 xs) := Lib.hid ho4
         have HL4 : Hid (w1.heap.size ≤ w4.heap.size) := Lib.hid hb4.size
         have HSB4 := Lib.hid (HSB.out.below HB4.out (Nat.le_refl _))
         have HM1 : Hid (m1 ≤ 1099511627776) := Lib.hid (by have := ho4.len; have := HXL.out; omega)
         have HN2 : Hid (n' ≤ 1099511627776) := Lib.hid (by omega)
         clear ho4 hb4))
  go_wp2
  refine bodyPost_ret (results_rowP Try.results54 _ _ _ 26 #[.int .i64 p, .int .i64 S, .int .i64 C, .slice B6 (m1 + n') d6] _ rfl HRP.out Try.underlying26 rfl Try.infoMx) rfl ?_
  have l1 := HSZ.out
  have l2 := HG.out
  have l3 := HGP.out.size
  have l5 := HB1.out.size
  have l6 := HB6.out.size
  refine ⟨B6, m1 + n', d6, rfl, ?_, ?_⟩
  · exact (HO6.out.grown HGP.out (fun q hq => by injection hq with hq; omega)).wide (by omega) l3
  · exact (HB1.out.trans (HB6.out.mono l5)).grown HGP.out (by omega) (by rintro q ⟨⟩; omega)
end Go.Proofs.Ytdepalpkcmfegaa

/-
  SumSpaces: what it answers, and the document's side. Conditions: lengths below 2^40.
-/


namespace Go.Proofs.Ytdepalpkcmfegaa
open Go.RowKit

theorem rowsC_app {xs ys : List Int} {C R R' : Nat} (hl : xs.length = R * C) : rowsC (xs ++ ys) C (R + R') C = rowsC xs C R C ++ rowsC ys C R' C := by
  unfold rowsC
  rw [List.range_add, List.map_append, List.map_map]
  congr 1
  · refine List.map_congr_left fun i hi => ?_
    have hi' := List.mem_range.1 hi
    unfold rowC
    refine List.map_congr_left fun j hj => ?_
    have hj' := List.mem_range.1 hj
    have h := idx_lt hi' hj'
    simp only [nth, List.getD_eq_getElem?_getD]
    rw [List.getElem?_append_left (by omega)]
  · refine List.map_congr_left fun i hi => ?_
    unfold rowC
    simp only [Function.comp]
    refine List.map_congr_left fun j hj => ?_
    simp only [nth, List.getD_eq_getElem?_getD]
    rw [List.getElem?_append_right (by rw [hl, Nat.add_mul]; omega)]
    congr 2
    rw [hl, Nat.add_mul]; omega
theorem Rg.app {p : Int} {xs ys : List Int} (h1 : Rg p xs) (h2 : Rg p ys) : Rg p (xs ++ ys) := fun j => by
  by_cases hj : j < xs.length
  · have e : nth (xs ++ ys) j = nth xs j := by simp only [nth, List.getD_eq_getElem?_getD]; rw [List.getElem?_append_left hj]
    rw [e]; exact h1 j
  · have e : nth (xs ++ ys) j = nth ys (j - xs.length) := by simp only [nth, List.getD_eq_getElem?_getD]; rw [List.getElem?_append_right (by omega)]
    rw [e]; exact h2 _
/-- The rows of both. -/
def bothR (xs ys : List Int) (C R R' : Nat) : List (List Int) := rowsC xs C R C ++ rowsC ys C R' C
/-- What SumSpaces answers. -/
def SumIs (p r c : Int) (xs : List Int) (p' r' c' : Int) (ys : List Int) (zp zr zc : Int) (z : List Int) (ok : Bool) : Prop :=
  ok = twoB p r c xs p' r' c' ys ∧ (ok = true → zp = p ∧ zr = spanN p c.toNat (bothR xs ys c.toNat r.toNat r'.toNat) ∧ zc = c ∧ z = spanX p c.toNat (bothR xs ys c.toNat r.toNat r'.toNat)) ∧ (ok = false → zp = 0 ∧ zr = 0 ∧ zc = 0 ∧ z = [])
theorem sum_ex (p r c : Int) (xs : List Int) (p' r' c' : Int) (ys : List Int) : ∃ zp zr zc z ok, SumIs p r c xs p' r' c' ys zp zr zc z ok := by
  cases h : twoB p r c xs p' r' c' ys with
  | true => exact ⟨_, _, _, _, true, h.symm, fun _ => ⟨rfl, rfl, rfl, rfl⟩, fun h' => absurd h' (by decide)⟩
  | false => exact ⟨0, 0, 0, [], false, h.symm, fun h' => absurd h' (by decide), fun _ => ⟨rfl, rfl, rfl, rfl⟩⟩
theorem isSpB_mat' {p r c : Int} {xs : List Int} (h : isSpB p r c xs = true) : matB p r c xs = true := by
  unfold isSpB at h
  exact (of_decide_eq_true h).1
/-- Two spaces in one: both are right, of one modulus and as many columns. -/
theorem twoB_yes {p r c : Int} {xs : List Int} {p' r' c' : Int} {ys : List Int} (h : twoB p r c xs p' r' c' ys = true) : ∃ R R' C : Nat, r = (R : Int) ∧ r' = (R' : Int) ∧ c = (C : Int) ∧ p' = p ∧ c' = (C : Int) ∧ P7 p ∧ R ≤ 7 ∧ R' ≤ 7 ∧ 1 ≤ C ∧ C ≤ 7 ∧ xs.length = R * C ∧ ys.length = R' * C ∧ Rg p xs ∧ Rg p ys := by
  unfold twoB at h
  simp only [Bool.and_eq_true, decide_eq_true_eq] at h
  obtain ⟨h1, h2, rfl, rfl⟩ := h
  have hM := matB_P (isSpB_mat' h1)
  have hM' := matB_P (isSpB_mat' h2)
  obtain ⟨R, C, rfl, e, hR7, hC1, hC7, hxl⟩ := hM.nats
  obtain ⟨R', C', rfl, e', hR7', hC1', hC7', hxl'⟩ := hM'.nats
  have eC : C' = C := by omega
  subst eC
  exact ⟨R, R', C', rfl, rfl, e, rfl, e, hM.1, hR7, hR7', hC1, hC7, hxl, hxl', hM.rg, hM'.rg⟩
/-- A call that hands back a matrix of its own and a bool. -/
def FreshMxB (w w' : World) (e : Ending) (p r c : Int) (xs : List Int) (ok : Bool) : Prop :=
  ∃ A n k, e = .returned (.tuple #[.agg #[.int .i64 p, .int .i64 r, .int .i64 c, .slice A n k], .bool ok]) ∧ Own w' w.heap.size w'.heap.size A n k xs ∧ Below w.heap.size w w'
end Go.Proofs.Ytdepalpkcmfegaa

/-
  SumSpaces on the document's side. Conditions: lengths below 2^40.
-/

namespace Go.Proofs.Ytdepalpkcmfegaa
open Go.RowKit

theorem FreshMxB.zero {w w1 w5 : World} {g : Nat} (hw : Below w.heap.size w w1) (hg : w.heap.size ≤ g) (hg5 : w1.grownBy w5 (some g)) : FreshMxB w w5 (.returned (.tuple #[.agg #[.int .i64 0, .int .i64 0, .int .i64 0, .slice none 0 0], .bool false])) 0 0 0 [] false :=
  ⟨none, 0, 0, rfl, Own.nil _ _ _, hw.grown hg5 hw.size (by rintro q ⟨⟩; exact hg)⟩
set_option maxRecDepth 100000 in
set_option maxHeartbeats 4000000 in
theorem specSumSpaces_z (p r c p' r' c' : Int) (A A' : Option Addr) (n k n' k' : Nat) (xs ys : List Int) (w : World) (hs : SI w A n xs) (hs' : SI w A' n' ys) (hn : n ≤ 1099511627776) (hn' : n' ≤ 1099511627776) (zp zr zc : Int) (z : List Int) (ok : Bool) (hz : SumIs p r c xs p' r' c' ys zp zr zc z ok) :
    Calls Try.prog 16 #[.agg #[.int .i64 p, .int .i64 r, .int .i64 c, .slice A n k], .agg #[.int .i64 p', .int .i64 r', .int .i64 c', .slice A' n' k']] w fun e w' => FreshMxB w w' e zp zr zc z ok := by
  obtain ⟨w1, hw1⟩ : ∃ w1, w1 = ((w.alloc (.cells #[.int .i64 p, .int .i64 r, .int .i64 c, .slice A n k] 26)).alloc (.cells #[.int .i64 p', .int .i64 r', .int .i64 c', .slice A' n' k'] 26)).alloc (.cells #[.int .i64 0, .int .i64 0, .int .i64 0, .slice none 0 0] 26) := ⟨_, rfl⟩
  obtain ⟨g, hg⟩ : ∃ g, g = w.heap.size := ⟨_, rfl⟩
  have hk : Blk w1 g 26 #[.int .i64 p, .int .i64 r, .int .i64 c, .slice A n k] := by rw [hw1, hg]; exact ((Blk.new _ _ _).alloc _).alloc _
  have hk2 : Blk w1 (g + 1) 26 #[.int .i64 p', .int .i64 r', .int .i64 c', .slice A' n' k'] := by
    rw [hw1, hg]
    have := (Blk.new (w.alloc (.cells #[.int .i64 p, .int .i64 r, .int .i64 c, .slice A n k] 26)) 26 #[.int .i64 p', .int .i64 r', .int .i64 c', .slice A' n' k']).alloc (.cells #[.int .i64 0, .int .i64 0, .int .i64 0, .slice none 0 0] 26)
    simpa using this
  have hk3 : Blk w1 (g + 2) 26 #[.int .i64 0, .int .i64 0, .int .i64 0, .slice none 0 0] := by
    rw [hw1, hg]
    have := Blk.new ((w.alloc (.cells #[.int .i64 p, .int .i64 r, .int .i64 c, .slice A n k] 26)).alloc (.cells #[.int .i64 p', .int .i64 r', .int .i64 c', .slice A' n' k'] 26)) 26 #[.int .i64 0, .int .i64 0, .int .i64 0, .slice none 0 0]
    simpa using this
  have hb : Below w.heap.size w w1 := by rw [hw1]; go_grown
  have HB := Lib.hid hb
  have HW := Lib.hid hw1
  have HG := Lib.hid hg
  have HK := Lib.hid hk
  have HK2 := Lib.hid hk2
  have HK3 := Lib.hid hk3
  have HSZ : Hid (w1.heap.size = g + 3) := Lib.hid (by rw [hw1, hg]; simp)
  have HSA := Lib.hid (hs.below hb (Nat.le_refl _))
  have HSB := Lib.hid (hs'.below hb (Nat.le_refl _))
  have HTW := Lib.hid (l7Two_any p r c p' r' c' A A' n k n' k' xs ys w1 (hs.below hb (Nat.le_refl _)) (hs'.below hb (Nat.le_refl _)) hn hn')
  have HL1 := Lib.hid hs.1
  have HL2 := Lib.hid hs'.1
  clear hw1 hg hk hk2 hk3 hb hs hs'
  cases hu : twoB p r c xs p' r' c' ys with
  | false =>
    rw [hu] at HTW
    obtain rfl : ok = false := by rw [hz.1, hu]
    obtain ⟨rfl, rfl, rfl, rfl⟩ := hz.2.2 rfl
    clear hu hz
    go_enter Try.func16, Try.ntmps16
    go_upto_region 1 with fail
    rw [← HW.out, ← HG.out]
    go_wp2_with (first
      | (refine wpList_load_rowP rfl 26 (.tmp 2) rfl g rfl 26 #[.int .i64 p, .int .i64 r, .int .i64 c, .slice A n k] _ HK.out Try.underlying26 rfl Try.infoMx ?_)
      | (refine wpList_load_rowP rfl 26 (.tmp 3) rfl (g + 1) rfl 26 #[.int .i64 p', .int .i64 r', .int .i64 c', .slice A' n' k'] _ HK2.out Try.underlying26 rfl Try.infoMx ?_)
      | (go_at_call 52
         with_reducible refine HTW.out.mono ?_
         rintro e w2 ⟨rfl, hb2⟩
         have HB2 := Lib.hid hb2
         have HR2 := Lib.hid (HK3.out.below hb2 HK3.out.lt)
         clear hb2)
      | (refine wpList_store_rowP rfl 26 (.tmp 4) (.tmp 10) rfl (g + 2) #[.int .i64 0, .int .i64 0, .int .i64 0, .slice none 0 0] rfl rfl 26 #[.int .i64 0, .int .i64 0, .int .i64 0, .slice none 0 0] HR2.out Try.infoMx rfl (by simp [Value.oneCell']) ?_; intro w5 hb5 hg5)
      | fail)
    refine bodyPost_ret (results_mx_tmp Try.results16 _ _ _ 26 #[.int .i64 0, .int .i64 0, .int .i64 0, .slice none 0 0] _ rfl hb5 Try.underlying26 rfl Try.infoMx) rfl ?_
    exact FreshMxB.zero (HB.out.trans (HB2.out.mono HB.out.size)) (by have := HG.out; omega) hg5
  | true =>
    rw [hu] at HTW
    obtain rfl : ok = true := by rw [hz.1, hu]
    obtain ⟨rfl, rfl, rfl, rfl⟩ := hz.2.1 rfl
    obtain ⟨R, R', C, rfl, rfl, rfl, rfl, rfl, hp7, hR7, hR7', hC1, hC7, hxl, hyl, hxr, hyr⟩ := twoB_yes hu
    simp only [Int.toNat_natCast]
    have hxyl : (xs ++ ys).length = (R + R') * C := by rw [List.length_append, hxl, hyl, Nat.add_mul]
    have hn49 : n ≤ 1000 := by have := HL1.out; have := nat_mul_small (r := R) (c := C) (by omega) (by omega); omega
    have hn49' : n' ≤ 1000 := by have := HL2.out; have := nat_mul_small (r := R') (c := C) (by omega) (by omega); omega
    have HBO := Lib.hid (fun w' (hb' : Below w1.heap.size w1 w') => l7Both_any p' p' C C R R' A A' n k n' k' xs ys w' (HSA.out.below hb' (Nat.le_refl _)) (HSB.out.below hb' (Nat.le_refl _)) hn49 hn49' (by omega) (by omega))
    have HSP := Lib.hid (fun A5 n5 k5 w' (h : SI w' A5 n5 (xs ++ ys)) => l7Span_any p' (R + R') C A5 n5 k5 (xs ++ ys) w' hp7 h (by omega) ⟨hC1, by omega⟩ (hxr.app hyr) hxyl)
    rw [rowsC_app hxl] at HSP
    obtain ⟨S, hS⟩ : ∃ S, S = R + R' := ⟨_, rfl⟩
    rw [← hS] at HSP HBO
    clear hS
    clear hu hz hxyl hxl hyl hxr hyr hp7
    go_enter Try.func16, Try.ntmps16
    go_upto_region 1 with fail
    rw [← HW.out, ← HG.out]
    go_upto_region 3 with (first
      | (refine wpList_load_rowP rfl 26 (.tmp 2) rfl g rfl 26 #[.int .i64 p', .int .i64 R, .int .i64 C, .slice A n k] _ HK.out Try.underlying26 rfl Try.infoMx ?_)
      | (refine wpList_load_rowP rfl 26 (.tmp 3) rfl (g + 1) rfl 26 #[.int .i64 p', .int .i64 R', .int .i64 C, .slice A' n' k'] _ HK2.out Try.underlying26 rfl Try.infoMx ?_)
      | (go_at_call 52
         with_reducible refine HTW.out.mono ?_
         rintro e w2 ⟨rfl, hb2⟩
         have HB2 := Lib.hid hb2
         have HKA := Lib.hid (HK.out.below hb2 HK.out.lt)
         have HKB := Lib.hid (HK2.out.below hb2 HK2.out.lt)
         have HR2 := Lib.hid (HK3.out.below hb2 HK3.out.lt)
         clear hb2)
      | fail)
    go_wp2_with (first
      | (refine wpList_load_rowP rfl 26 (.tmp 2) rfl g rfl 26 #[.int .i64 p', .int .i64 R, .int .i64 C, .slice A n k] _ HKA.out Try.underlying26 rfl Try.infoMx ?_)
      | (refine wpList_load_rowP rfl 26 (.tmp 3) rfl (g + 1) rfl 26 #[.int .i64 p', .int .i64 R', .int .i64 C, .slice A' n' k'] _ HKB.out Try.underlying26 rfl Try.infoMx ?_)
      | (go_at_call 54
         with_reducible refine (HBO.out _ HB2.out).mono ?_
         rintro e w3 ⟨A5, n5, k5, rfl, ho3, hb3⟩
         have HO3 := Lib.hid ho3.si
         have HB3 : Hid (Below w1.heap.size w1 w3) := Lib.hid (HB2.out.trans (hb3.mono HB2.out.size))
         have HR3 := Lib.hid (HR2.out.below hb3 HR2.out.lt)
         clear ho3 hb3)
      | (go_at_call 53
         with_reducible refine (HSP.out A5 n5 k5 w3 HO3.out).mono ?_
         rintro e w4 ⟨B1, m1, d1, rfl, ho4, hb4⟩
         have HO4 := Lib.hid ho4
         have HB4 : Hid (Below w1.heap.size w1 w4) := Lib.hid (HB3.out.trans (hb4.mono HB3.out.size))
         have HR4 := Lib.hid (HR3.out.below hb4 HR3.out.lt)
         have HS4 : Hid (w1.heap.size ≤ w3.heap.size ∧ w3.heap.size ≤ w4.heap.size) := Lib.hid ⟨HB3.out.size, hb4.size⟩
         clear ho4 hb4)
      | (refine wpList_store_rowP rfl 26 (.tmp 4) (.tmp 14) rfl (g + 2) #[.int .i64 p', .int .i64 (spanN p' C (bothR xs ys C R R')), .int .i64 C, .slice B1 m1 d1] rfl rfl 26 #[.int .i64 0, .int .i64 0, .int .i64 0, .slice none 0 0] HR4.out Try.infoMx rfl (by simp [Value.oneCell']) ?_; intro w7 hb7 hg7)
      | fail)
    refine bodyPost_ret (results_mx_tmp Try.results16 _ _ _ 26 #[.int .i64 p', .int .i64 (spanN p' C (bothR xs ys C R R')), .int .i64 C, .slice B1 m1 d1] _ rfl hb7 Try.underlying26 rfl Try.infoMx) rfl ?_
    have l1 := HSZ.out
    have l2 := HG.out
    have l3 := hg7.size
    have l4 := HS4.out
    have l5 := HB.out.size
    refine ⟨B1, m1, d1, rfl, ?_, ?_⟩
    · exact (HO4.out.grown hg7 (fun q hq => by injection hq with hq; omega)).wide (by omega) (by omega)
    · exact (HB.out.trans (HB4.out.mono l5)).grown hg7 (by omega) (by rintro q ⟨⟩; omega)
end Go.Proofs.Ytdepalpkcmfegaa

/-
  slices.Concat at two slices of rows. Conditions: lengths at most 1000.
-/



namespace Go.Proofs.Ytdepalpkcmfegaa
open Go.RowKit

set_option maxHeartbeats 800000 in
/-- slices.Grow at the nil slice of rows. -/
theorem growNilR_any (m : Nat) (w : World) (hm : m ≤ 2000) :
    Calls Try.prog 108 #[.slice none 0 0, .int .i64 m] w fun e w' => ∃ A c, e = .returned (.slice A 0 c) ∧ w'.ownsRow w.heap.size 22 1 (.slice A 0 c) 0 [] ∧ Below w.heap.size w w' := by
  cases m with
  | zero =>
    go_enter Try.func108, Try.ntmps108
    go_wp2
    go_ret
    exact ⟨none, 0, rfl, World.ownsRow_nil _ _ _ _, Below.refl _ _⟩
  | succ k =>
    obtain ⟨m, hk⟩ : ∃ m, m = k + 1 := ⟨_, rfl⟩
    rw [← hk] at hm ⊢
    have hm1 : 0 < m := by omega
    clear hk
    obtain ⟨i0, hi, hz0, hz1, hz2⟩ := info_parts Try.infoLs
    have hold : (Builtin.firstCells i0.size 0 (.slice none 0 0)).run Try.prog w.drew = .ok #[] w.drew := run_firstCells_none w.drew i0.size 0 0 0
    have hrz : ∀ ty, (Builtin.append_ #[43, 3] ty #[.slice none 0 0, .int .i64 (m : Int)]).run Try.prog w =
        .ok (.slice (some ⟨w.heap.size, 0, none⟩) (0 + m) (grownCap w (0 + m) 0 22)) (w.drew.alloc (.cells (#[] ++ Builtin.zeroCells (Value.slice none 0 0).cells m ++ Builtin.zeroCells (Value.slice none 0 0).cells (grownCap w (0 + m) 0 22 - (0 + m))) 22)) := fun ty =>
      Lib.run_append_grow_zeros w 43 3 ty 22 i0 (.slice none 0 0) .i64 .i64 Try.underlying43 Try.underlying3 hi hz0 none 0 0 [] hold m hm1 (by omega) (by omega) (by omega)
        (by rw [hz2]; omega) (growslice_fits (by omega) (by rw [hz2]; omega))
    have hGn : 0 + m ≤ grownCap w (0 + m) 0 22 := grownCap_ge w _ _ _
    have hGm := grownCap_le_maxLen w (0 + m) 0 22 (by unfold maxLen; omega)
    have hc1 : (Value.slice none 0 0).cells.size = 1 := rfl
    obtain ⟨G, hG⟩ : ∃ G, G = grownCap w (0 + m) 0 22 := ⟨_, rfl⟩
    rw [← hG] at hrz hGn hGm
    have hO := World.ownsRow_made (base := w.heap.size) (e := 22) (size := 1) w.drew (#[] ++ Builtin.zeroCells (Value.slice none 0 0).cells m ++ Builtin.zeroCells (Value.slice none 0 0).cells (G - (0 + m))) G (Nat.le_refl _) hGm (by rw [Array.size_append, Array.size_append, size_zeroCells, size_zeroCells, hc1]; simp; omega)
    generalize (#[] ++ Builtin.zeroCells (Value.slice none 0 0).cells m ++ Builtin.zeroCells (Value.slice none 0 0).cells (G - (0 + m))) = cs at hrz hO
    have hb : Below w.heap.size w (w.drew.alloc (.cells cs 22)) := (Below.refl w.heap.size w).drew.alloc (Nat.le_refl _) _
    have HO := Lib.hid hO
    have HB := Lib.hid hb
    have h1 : ¬ ((m : Int) < 0) := by omega
    have h4 : (m : Int) > 0 := by omega
    have hm63 : wrap64 (m : Int) = (m : Int) := by unfold wrap64; omega
    have hG0 : (0 : Int) ≤ (G : Int) := by omega
    clear hO hb hold hG hi hz0 hz1 hz2 hGn hGm hc1
    go_enter Try.func108, Try.ntmps108
    go_wp2_with (at_builtin; refine Lib.wpList_append_run _ rfl _ _ _ _ rfl _ _ rfl rfl _ _ (hrz _) ?_)
    all_goals (go_ret; exact ⟨_, G, rfl, HO.out, HB.out⟩)
/-- What the cells of a slice of rows hold. -/
def HdL (w : World) (A : Option Addr) (n : Nat) (ls : List (List Int)) (H : List Value) : Prop :=
  H.length = n ∧ (0 < n → ∃ b o, A = some ⟨b, o, none⟩ ∧ ∀ k, k < n → w.cell? ⟨b, o + k, none⟩ = H[k]?) ∧ ∀ k, k < n → ∃ A' n' c', H[k]? = some (.slice A' n' c') ∧ SI w A' n' (li ls k) ∧ n' ≤ c' ∧ (A' = none → n' = 0 ∧ c' = 0)
theorem LS.hdl {w : World} {A : Option Addr} {n : Nat} {ls : List (List Int)} (h : LS w A n ls) : ∃ H, HdL w A n ls H := by
  by_cases h0 : 0 < n
  · obtain ⟨b, o, rfl, hb, hk⟩ := h.2 h0
    refine ⟨(List.range n).map fun k => (w.cell? ⟨b, o + k, none⟩).getD undef, by simp, fun _ => ⟨b, o, rfl, fun k hkn => ?_⟩, fun k hkn => ?_⟩
    · obtain ⟨A', n', c', e, _⟩ := hk k hkn
      simp [hkn, e]
    · obtain ⟨A', n', c', e, hs, hc, hn⟩ := hk k hkn
      exact ⟨A', n', c', by simp [hkn, e], hs, hc, hn⟩
  · have : n = 0 := by omega
    subst this
    exact ⟨[], rfl, fun h1 => absurd h1 (by omega), fun k hk => absurd hk (by omega)⟩
theorem HdL.below {w w' : World} {A : Option Addr} {n : Nat} {ls : List (List Int)} {H : List Value} (h : HdL w A n ls H) (hl : LS w A n ls) (hb : Below w.heap.size w w') : HdL w' A n ls H := by
  refine ⟨h.1, fun h0 => ?_, fun k hk => ?_⟩
  · obtain ⟨b, o, e, hc⟩ := h.2.1 h0
    obtain ⟨b', o', e', hb', _⟩ := hl.2 h0
    rw [e] at e'
    injection e' with e'
    injection e' with e1 e2
    subst e1
    exact ⟨b, o, e, fun k hk => by rw [Below.cell hb (p := ⟨b, o + k, none⟩) hb']; exact hc k hk⟩
  · obtain ⟨A', n', c', e, hs, hc, hn⟩ := h.2.2 k hk
    exact ⟨A', n', c', e, hs.below hb (Nat.le_refl _), hc, hn⟩
theorem HdL.one {w : World} {A : Option Addr} {n : Nat} {ls : List (List Int)} {H : List Value} (h : HdL w A n ls H) : ∀ u ∈ H, u.oneCell' = true := fun u hu => by
  obtain ⟨k, hk, rfl⟩ := List.mem_iff_getElem.1 hu
  obtain ⟨A', n', c', e, _⟩ := h.2.2 k (by rw [← h.1]; exact hk)
  rw [List.getElem?_eq_getElem hk] at e
  injection e with e
  rw [e]; rfl
/-- An owned slice whose cells are the headers of two slices of rows reads as both lists. -/
theorem HdL.cat {w : World} {A1 A2 A : Option Addr} {n1 n2 lo c : Nat} {ls us : List (List Int)} {H1 H2 : List Value} (h1 : HdL w A1 n1 ls H1) (h2 : HdL w A2 n2 us H2) (hl1 : ls.length = n1) (hl2 : us.length = n2) (ho : w.ownsRow lo 22 1 (.slice A (n1 + n2) c) (n1 + n2) (H1 ++ H2)) : LS w A (n1 + n2) (ls ++ us) := by
  refine ⟨by simp [hl1, hl2], fun h0 => ?_⟩
  obtain ⟨g, cap, e, _, _⟩ := ho.form h0
  injection e with e1 e2 e3
  subst e1
  have hlt := (ho.lt g rfl).2
  refine ⟨g, 0, rfl, hlt, fun k hk => ?_⟩
  have hcell : w.cell? ⟨g, 0 + k, none⟩ = (H1 ++ H2)[k]? := by
    rw [Nat.zero_add]
    exact World.ownsRow.cellAt ho k (by omega)
  by_cases hk1 : k < n1
  · obtain ⟨A', n', c', e, hs, hc, hn⟩ := h1.2.2 k hk1
    refine ⟨A', n', c', by rw [hcell, List.getElem?_append_left (by rw [h1.1]; exact hk1)]; exact e, ?_, hc, hn⟩
    rw [li_get (by simp [hl1, hl2]; omega), List.getElem_append_left (by omega)]
    rw [li_get (by omega)] at hs
    exact hs
  · obtain ⟨A', n', c', e, hs, hc, hn⟩ := h2.2.2 (k - n1) (by omega)
    refine ⟨A', n', c', by rw [hcell, List.getElem?_append_right (by rw [h1.1]; omega), h1.1]; exact e, ?_, hc, hn⟩
    rw [li_get (by simp [hl1, hl2]; omega), List.getElem_append_right (by omega)]
    rw [li_get (by omega)] at hs
    simpa only [hl1] using hs
theorem World.ownsRow.mono_ {w : World} {lo lo' n : Nat} {v : Value} {L : List Value} (h : w.ownsRow lo 22 1 v n L) (hl : lo' ≤ lo) : w.ownsRow lo' 22 1 v n L := by
  refine ⟨h.1, ?_⟩
  rcases h.2 with h' | ⟨g, cap, cur, e, hlo, rest⟩
  · exact Or.inl h'
  · exact Or.inr ⟨g, cap, cur, e, by omega, rest⟩
set_option maxRecDepth 100000 in
set_option maxHeartbeats 1000000 in
theorem wpList_append_hd {ops : Array Oper} {rest : List Oper} {o : Oper} {a : Act} {w : World} {Q : Exit → Act → World → Prop} (hgd : o.guard = none) (s x : Operand)
    (ho : o.op = .call { callee := .builtin .append, args := #[s, x], argTypes := #[43, 43] })
    (lo : Nat) (A : Option Addr) (n c : Nat) (L : List Value) (A2 : Option Addr) (m c2 : Nat) (ls : List (List Int)) (H : List Value) (hs : a.eval s = .slice A n c) (hx : a.eval x = .slice A2 m c2)
    (hown : w.ownsRow lo 22 1 (.slice A n c) n L) (hhd : HdL w A2 m ls H) (hlo : lo ≤ w.heap.size) (hn : n ≤ 100000) (hm : m ≤ 100000)
    (hK : ∀ A' c' w', w'.ownsRow lo 22 1 (.slice A' (n + m) c') (n + m) (L ++ H) → Below lo w w' → wpList Try.prog ops Q rest (a.put o.dst (.slice A' (n + m) c')) w') :
    wpList Try.prog ops Q (o :: rest) a w := by
  obtain ⟨i0, hi, hz0, hz1, hz2⟩ := info_parts Try.infoLs
  by_cases h0 : 0 < m
  · obtain ⟨b, off, rfl, hc⟩ := hhd.2.1 h0
    refine wpList_append_own _ hgd s x 43 ho lo 22 i0 (.slice none 0 0) 1 24 Try.underlying43 hi hz0 hz1 hz2 rfl (by decide) _ _ _ hs hown ⟨b, off, none⟩ m c2 H hx (by simp [hhd.1]) ?_ hhd.one (by unfold maxLen; omega) (by omega) hlo ?_
    · intro j u hj
      have hjl : j < H.length := by
        rcases Nat.lt_or_ge j H.length with h | h
        · exact h
        · rw [List.getElem?_eq_none h] at hj; cases hj
      rw [add_pt, hc j (by have := hhd.1; omega)]
      exact hj
    · intro v' w1 ho1 hg1 _
      obtain ⟨g, cap, rfl, _, _⟩ := ho1.form (by omega)
      exact hK _ _ w1 ho1 (grow_below hg1 hlo (fun k hk => (hown.lt k hk).1))
  · have hm0 : m = 0 := by omega
    subst hm0
    have hy : H = [] := List.eq_nil_of_length_eq_zero hhd.1
    subst hy
    have hk0 := hK A c w (by simpa using hown) (Below.refl _ _)
    refine wpList_plain hgd fun K hK' => ?_
    have hrun : (Builtin.append_ #[43, 43] o.type #[.slice A n c, .slice A2 0 c2]).run Try.prog w = .ok (.slice A n c) w := by
      have hg := hown
      have hl0 : ∀ v, (loadCells v 0).run Try.prog w = .ok #[] w := fun v => by simp [loadCells, loadCellsFrom]
      rcases hg.2 with ⟨e, h0⟩ | ⟨g, cap, cur, e, _, hgg, hnc, _⟩
      · injection e with e1 e2 e3
        subst e1; subst e3; subst h0
        cases A2 <;> simp [Builtin.append_, run_underlying Try.underlying43, sizeOf, typeInfo, hi, Builtin.lenOf, Builtin.firstCells, hl0]
      · injection e with e1 e2 e3
        subst e1; subst e3
        cases A2 <;> simp [Builtin.append_, run_underlying Try.underlying43, sizeOf, typeInfo, hi, Builtin.lenOf, Builtin.firstCells, hnc, storeCells, hl0]
    unfold Oper.wp
    simp [execOp, ho, resolve, invoke, builtin, hs, hx, hrun, Result.andThen]
    exact hK' _ _ (by simpa using hk0)
/-- The first i of two lists of headers, one behind the other. -/
def catH (H1 H2 : List Value) : Nat → List Value
  | 0 => []
  | 1 => H1
  | _ => H1 ++ H2
set_option maxHeartbeats 1600000 in
theorem concat2R_any (g cap n1 c1 n2 c2 : Nat) (A1 A2 : Option Addr) (ls us : List (List Int)) (w : World) (hb : Blk w g 43 #[.slice A1 n1 c1, .slice A2 n2 c2]) (hs1 : LS w A1 n1 ls) (hs2 : LS w A2 n2 us) (hn1 : n1 ≤ 1000) (hn2 : n2 ≤ 1000) :
    Calls Try.prog 57 #[.slice (some ⟨g, 0, none⟩) 2 cap] w fun e w' => ∃ A c, e = .returned (.slice A (n1 + n2) c) ∧ LS w' A (n1 + n2) (ls ++ us) ∧ Below w.heap.size w w' := by
  have HK := Lib.hid hb
  have HS1 := Lib.hid hs1
  have HS2 := Lib.hid hs2
  have hgl := hb.lt
  have HG := Lib.hid hgl
  obtain ⟨S, hS⟩ : ∃ S, S = n1 + n2 := ⟨_, rfl⟩
  have hz0 : ¬ ((n1 : Int) < 0) := by omega
  have hz1 : ¬ ((S : Int) < 0) := by omega
  have hw1 : IntKind.i64.wrap (n1 : Int) = (n1 : Int) := IntWalk.i64_in _ (by omega)
  have hw2 : IntKind.i64.wrap ((n1 : Int) + (n2 : Int)) = (S : Int) := by rw [show (n1 : Int) + (n2 : Int) = (S : Int) by omega]; exact IntWalk.i64_in _ (by omega)
  obtain ⟨H1, hh1⟩ := hs1.hdl
  obtain ⟨H2, hh2⟩ := hs2.hdl
  have HH1 := Lib.hid hh1
  have HH2 := Lib.hid hh2
  have HGR := Lib.hid (fun w' => growNilR_any S w' (by omega))
  have HSS := Lib.hid hS
  clear hb hs1 hs2 hgl hS hh1 hh2
  go_enter Try.func57, Try.ntmps57
  go_wp2_with fail
  go_loopw [3, 11] (fun sv iv wr => ∃ i : Nat, i ≤ 2 ∧ iv = .int .i64 i ∧ ((i = 0 ∧ sv = .int .i64 0) ∨ (i = 1 ∧ sv = .int .i64 n1) ∨ (i = 2 ∧ sv = .int .i64 S)) ∧ Drawn w wr)
    (fun _ iv _ => 2 - (intOf iv).toNat)
  case atStart => exact ⟨0, by omega, rfl, .inl ⟨rfl, rfl⟩, Drawn.refl _⟩
  case round =>
    obtain ⟨i, hi, rfl, hsv, hD⟩ := hrel
    have HD := Lib.hid hD
    have HKR := Lib.hid (HK.out.drawn hD)
    clear hD
    rcases hsv with ⟨rfl, rfl⟩ | ⟨rfl, rfl⟩ | ⟨rfl, rfl⟩
    · have hc : wr.cell? ⟨g, 0, none⟩ = some (.slice A1 n1 c1) := by rw [HKR.out.cell]; rfl
      go_wp2
      go_roundw
      case rel => exact ⟨1, by omega, by go_num, .inr (.inl ⟨rfl, rfl⟩), HD.out⟩
      case measure => simp [intOf]
    · have hc : wr.cell? ⟨g, 1, none⟩ = some (.slice A2 n2 c2) := by rw [HKR.out.cell]; rfl
      go_wp2
      go_roundw
      case rel => exact ⟨2, by omega, by go_num, .inr (.inr ⟨rfl, by first | rfl | (have := HSS.out; subst this; go_num)⟩), HD.out⟩
      case measure => simp [intOf]
    · go_wp2_with (go_at_call 108; refine (HGR.out _).mono ?_
                   rintro e w2 ⟨A4, c4, rfl, ho3, hb3⟩
                   have HO3 : Hid (w2.ownsRow w.heap.size 22 1 (.slice A4 0 c4) 0 []) := Lib.hid (World.ownsRow.mono_ ho3 (HD.out.below w.heap.size).size)
                   have HB3 : Hid (Below w.heap.size w w2) := Lib.hid ((HD.out.below _).trans (hb3.mono (HD.out.below w.heap.size).size))
                   clear ho3 hb3)
      go_loopw [6, 27] (fun ov iv wx => ∃ (i : Nat) (Ao : Option Addr) (no co : Nat), i ≤ 2 ∧ iv = .int .i64 i ∧ ov = .slice Ao no co ∧ wx.ownsRow w.heap.size 22 1 (.slice Ao no co) no (catH H1 H2 i) ∧ no = (catH H1 H2 i).length ∧ Below w.heap.size w wx)
        (fun _ iv _ => 2 - (intOf iv).toNat)
      case atStart => exact ⟨0, A4, 0, c4, by omega, rfl, rfl, HO3.out, rfl, HB3.out⟩
      case round =>
        obtain ⟨i, Ao, no, co, hi, rfl, rfl, hown, hnl, hbw⟩ := hrel
        have HO := Lib.hid hown
        have HB := Lib.hid hbw
        have HKX := Lib.hid (HK.out.below hbw HG.out)
        have HNO := Lib.hid hnl
        have HL1 := Lib.hid HH1.out.1
        have HL2 := Lib.hid HH2.out.1
        clear hown hnl hbw HO3 HB3
        have h3 : i = 0 ∨ i = 1 ∨ i = 2 := by omega
        rcases h3 with rfl | rfl | rfl
        · have hc : wr.cell? ⟨g, 0, none⟩ = some (.slice A1 n1 c1) := by rw [HKX.out.cell]; rfl
          have hno : no = 0 := HNO.out
          go_wp2_with (at_builtin; refine wpList_append_hd rfl (.tmp 31) (.tmp 32) rfl w.heap.size Ao no co [] A1 n1 c1 ls H1 rfl rfl HO.out (HH1.out.below HS1.out HB.out) HB.out.size (by omega) (by omega) ?_; intro A' c' w5 ho5 hb5)
          go_roundw
          case rel => exact ⟨1, A', n1, c', by omega, by go_num, rfl, by rw [hno, Nat.zero_add] at ho5; exact ho5, HL1.out.symm, HB.out.trans hb5⟩
          case measure => simp [intOf]
        · have hc : wr.cell? ⟨g, 1, none⟩ = some (.slice A2 n2 c2) := by rw [HKX.out.cell]; rfl
          have hno : no = n1 := by rw [HNO.out]; exact HL1.out
          go_wp2_with (at_builtin; refine wpList_append_hd rfl (.tmp 31) (.tmp 32) rfl w.heap.size Ao no co H1 A2 n2 c2 us H2 rfl rfl HO.out (HH2.out.below HS2.out HB.out) HB.out.size (by omega) (by omega) ?_; intro A' c' w5 ho5 hb5)
          go_roundw
          case rel => exact ⟨2, A', n1 + n2, c', by omega, by go_num, rfl, by rw [hno] at ho5; exact ho5, by rw [← HL1.out, ← HL2.out]; simp [catH], HB.out.trans hb5⟩
          case measure => simp [intOf]
        · go_wp2
          go_ret
          obtain rfl : no = n1 + n2 := by rw [HNO.out, ← HL1.out, ← HL2.out]; simp [catH]
          exact ⟨Ao, co, rfl, (HH1.out.below HS1.out HB.out).cat (HH2.out.below HS2.out HB.out) HS1.out.1 HS2.out.1 HO.out, HB.out⟩
end Go.Proofs.Ytdepalpkcmfegaa

/-
  SumSpaces on the program's side. Conditions: lengths below 2^40.
-/


namespace Go.Proofs.Ytdepalpkcmfegaa
open Go.RowKit

set_option maxRecDepth 100000 in
set_option maxHeartbeats 4000000 in
theorem implSumSpaces_z (p r c p' r' c' : Int) (A A' : Option Addr) (n k n' k' : Nat) (xs ys : List Int) (w : World) (hs : SI w A n xs) (hs' : SI w A' n' ys) (hn : n ≤ 1099511627776) (hn' : n' ≤ 1099511627776) (hnk : n ≤ k) (hnk' : n' ≤ k') (zp zr zc : Int) (z : List Int) (ok : Bool) (hz : SumIs p r c xs p' r' c' ys zp zr zc z ok) :
    Calls Try.prog 18 #[.agg #[.int .i64 p, .int .i64 r, .int .i64 c, .slice A n k], .agg #[.int .i64 p', .int .i64 r', .int .i64 c', .slice A' n' k']] w fun e w' => FreshMxB w w' e zp zr zc z ok := by
  obtain ⟨w1, hw1⟩ : ∃ w1, w1 = ((w.alloc (.cells #[.int .i64 p, .int .i64 r, .int .i64 c, .slice A n k] 26)).alloc (.cells #[.int .i64 p', .int .i64 r', .int .i64 c', .slice A' n' k'] 26)).alloc (.cells #[.int .i64 0, .int .i64 0, .int .i64 0, .slice none 0 0] 26) := ⟨_, rfl⟩
  obtain ⟨g, hg⟩ : ∃ g, g = w.heap.size := ⟨_, rfl⟩
  have hk : Blk w1 g 26 #[.int .i64 p, .int .i64 r, .int .i64 c, .slice A n k] := by rw [hw1, hg]; exact ((Blk.new _ _ _).alloc _).alloc _
  have hk2 : Blk w1 (g + 1) 26 #[.int .i64 p', .int .i64 r', .int .i64 c', .slice A' n' k'] := by
    rw [hw1, hg]
    have := (Blk.new (w.alloc (.cells #[.int .i64 p, .int .i64 r, .int .i64 c, .slice A n k] 26)) 26 #[.int .i64 p', .int .i64 r', .int .i64 c', .slice A' n' k']).alloc (.cells #[.int .i64 0, .int .i64 0, .int .i64 0, .slice none 0 0] 26)
    simpa using this
  have hk3 : Blk w1 (g + 2) 26 #[.int .i64 0, .int .i64 0, .int .i64 0, .slice none 0 0] := by
    rw [hw1, hg]
    have := Blk.new ((w.alloc (.cells #[.int .i64 p, .int .i64 r, .int .i64 c, .slice A n k] 26)).alloc (.cells #[.int .i64 p', .int .i64 r', .int .i64 c', .slice A' n' k'] 26)) 26 #[.int .i64 0, .int .i64 0, .int .i64 0, .slice none 0 0]
    simpa using this
  have hb : Below w.heap.size w w1 := by rw [hw1]; go_grown
  have HB := Lib.hid hb
  have HW := Lib.hid hw1
  have HG := Lib.hid hg
  have HK := Lib.hid hk
  have HK2 := Lib.hid hk2
  have HK3 := Lib.hid hk3
  have HSZ : Hid (w1.heap.size = g + 3) := Lib.hid (by rw [hw1, hg]; simp)
  have HSA := Lib.hid (hs.below hb (Nat.le_refl _))
  have HSB := Lib.hid (hs'.below hb (Nat.le_refl _))
  have HTW := Lib.hid (areSpaces_any p r c p' r' c' A A' n k n' k' xs ys w1 (hs.below hb (Nat.le_refl _)) (hs'.below hb (Nat.le_refl _)) hn hn' hnk hnk')
  clear hw1 hg hk hk2 hk3 hb hs hs'
  cases hu : twoB p r c xs p' r' c' ys with
  | false =>
    rw [hu] at HTW
    obtain rfl : ok = false := by rw [hz.1, hu]
    obtain ⟨rfl, rfl, rfl, rfl⟩ := hz.2.2 rfl
    clear hu hz
    go_enter Try.func18, Try.ntmps18
    go_upto_region 1 with fail
    rw [← HW.out, ← HG.out]
    go_wp2_with (first
      | (refine wpList_load_rowP rfl 26 (.tmp 2) rfl g rfl 26 #[.int .i64 p, .int .i64 r, .int .i64 c, .slice A n k] _ HK.out Try.underlying26 rfl Try.infoMx ?_)
      | (refine wpList_load_rowP rfl 26 (.tmp 3) rfl (g + 1) rfl 26 #[.int .i64 p', .int .i64 r', .int .i64 c', .slice A' n' k'] _ HK2.out Try.underlying26 rfl Try.infoMx ?_)
      | (go_at_call 55
         with_reducible refine HTW.out.mono ?_
         rintro e w2 ⟨rfl, hb2⟩
         have HB2 := Lib.hid hb2
         have HR2 := Lib.hid (HK3.out.below hb2 HK3.out.lt)
         clear hb2)
      | (refine wpList_store_rowP rfl 26 (.tmp 4) (.tmp 10) rfl (g + 2) #[.int .i64 0, .int .i64 0, .int .i64 0, .slice none 0 0] rfl rfl 26 #[.int .i64 0, .int .i64 0, .int .i64 0, .slice none 0 0] HR2.out Try.infoMx rfl (by simp [Value.oneCell']) ?_; intro w5 hb5 hg5)
      | fail)
    refine bodyPost_ret (results_mx_tmp Try.results18 _ _ _ 26 #[.int .i64 0, .int .i64 0, .int .i64 0, .slice none 0 0] _ rfl hb5 Try.underlying26 rfl Try.infoMx) rfl ?_
    exact FreshMxB.zero (HB.out.trans (HB2.out.mono HB.out.size)) (by have := HG.out; omega) hg5
  | true =>
    rw [hu] at HTW
    obtain rfl : ok = true := by rw [hz.1, hu]
    obtain ⟨rfl, rfl, rfl, rfl⟩ := hz.2.1 rfl
    obtain ⟨R, R', C, rfl, rfl, rfl, rfl, rfl, hp7, hR7, hR7', hC1, hC7, hxl, hyl, hxr, hyr⟩ := twoB_yes hu
    simp only [Int.toNat_natCast]
    have hpp := hp7.two
    have hro : ∀ x, x ∈ bothR xs ys C R R' → x.length = C ∧ Rg p' x := fun x hx => by
      unfold bothR at hx
      rcases List.mem_append.1 hx with h | h
      · exact rowsC_ok (by omega) hxr C R C x h
      · exact rowsC_ok (by omega) hyr C R' C x h
    have HSP := Lib.hid (fun A7 c7 w' (h : LS w' A7 (R + R') (bothR xs ys C R R')) => spanOf_any p' C (R + R') c7 A7 (bothR xs ys C R R') w' hp7 h (by omega) hro ⟨hC1, by omega⟩)
    have HCT := Lib.hid (fun ga gb w' (h1 : LS w' (some ⟨ga, 0, none⟩) R (rowsC xs C R C)) (h2 : LS w' (some ⟨gb, 0, none⟩) R' (rowsC ys C R' C)) => concat2R_any w'.heap.size 2 R R R' R' (some ⟨ga, 0, none⟩) (some ⟨gb, 0, none⟩) (rowsC xs C R C) (rowsC ys C R' C) (w'.alloc (.cells #[.slice (some ⟨ga, 0, none⟩) R R, .slice (some ⟨gb, 0, none⟩) R' R'] 43)) (Blk.new _ _ _) (h1.below ((Below.refl w'.heap.size w').alloc (Nat.le_refl _) _) (Nat.le_refl _)) (h2.below ((Below.refl w'.heap.size w').alloc (Nat.le_refl _) _) (Nat.le_refl _)) (by omega) (by omega))
    have HXY := Lib.hid (And.intro hxl hyl)
    clear hu hz hro hxl hyl hxr hyr hp7
    go_enter Try.func18, Try.ntmps18
    go_upto_region 1 with fail
    rw [← HW.out, ← HG.out]
    go_upto_region 3 with (first
      | (refine wpList_load_rowP rfl 26 (.tmp 2) rfl g rfl 26 #[.int .i64 p', .int .i64 R, .int .i64 C, .slice A n k] _ HK.out Try.underlying26 rfl Try.infoMx ?_)
      | (refine wpList_load_rowP rfl 26 (.tmp 3) rfl (g + 1) rfl 26 #[.int .i64 p', .int .i64 R', .int .i64 C, .slice A' n' k'] _ HK2.out Try.underlying26 rfl Try.infoMx ?_)
      | (go_at_call 55
         with_reducible refine HTW.out.mono ?_
         rintro e w2 ⟨rfl, hb2⟩
         have HB2 := Lib.hid hb2
         have HKA := Lib.hid (HK.out.below hb2 HK.out.lt)
         have HKB := Lib.hid (HK2.out.below hb2 HK2.out.lt)
         have HR2 := Lib.hid (HK3.out.below hb2 HK3.out.lt)
         clear hb2)
      | fail)
    have HCE := Lib.hid (fun w' (h1 : Blk w' g 26 #[.int .i64 p', .int .i64 R, .int .i64 C, .slice A n k]) (h2 : Blk w' (g + 1) 26 #[.int .i64 p', .int .i64 R', .int .i64 C, .slice A' n' k']) => And.intro (cells4 h1) (cells4 h2))
    have HQ := Lib.hid (HCE.out w2 HKA.out HKB.out)
    have HQD : Hid ((w2.drew.cell? ⟨g, 0, none⟩ = some (.int .i64 p') ∧ w2.drew.cell? ⟨g, 1, none⟩ = some (.int .i64 R) ∧ w2.drew.cell? ⟨g, 2, none⟩ = some (.int .i64 C) ∧ w2.drew.cell? ⟨g, 3, none⟩ = some (.slice A n k)) ∧ w2.drew.cell? ⟨g + 1, 0, none⟩ = some (.int .i64 p') ∧ w2.drew.cell? ⟨g + 1, 1, none⟩ = some (.int .i64 R') ∧ w2.drew.cell? ⟨g + 1, 2, none⟩ = some (.int .i64 C) ∧ w2.drew.cell? ⟨g + 1, 3, none⟩ = some (.slice A' n' k')) := Lib.hid (HCE.out w2 HKA.out HKB.out)
    have HARA := Lib.hid (fun w' (hb' : Below w2.heap.size w2 w') => allRows_any p' R C A n k xs w' ((HSA.out.below HB2.out (Nat.le_refl _)).below hb' (Nat.le_refl _)) ⟨hC1, by omega⟩ (by omega) HXY.out.1 hnk)
    have HARB := Lib.hid (fun w' (hb' : Below w2.heap.size w2 w') => allRows_any p' R' C A' n' k' ys w' ((HSB.out.below HB2.out (Nat.le_refl _)).below hb' (Nat.le_refl _)) ⟨hC1, by omega⟩ (by omega) HXY.out.2 hnk')
    go_region_held3 (fun w' => (w'.cell? ⟨g, 0, none⟩ = some (.int .i64 p') ∧ w'.cell? ⟨g, 1, none⟩ = some (.int .i64 R) ∧ w'.cell? ⟨g, 2, none⟩ = some (.int .i64 C) ∧ w'.cell? ⟨g, 3, none⟩ = some (.slice A n k)) ∧ w'.cell? ⟨g + 1, 0, none⟩ = some (.int .i64 p') ∧ w'.cell? ⟨g + 1, 1, none⟩ = some (.int .i64 R') ∧ w'.cell? ⟨g + 1, 2, none⟩ = some (.int .i64 C) ∧ w'.cell? ⟨g + 1, 3, none⟩ = some (.slice A' n' k'))
      (first | with_reducible exact HQD.out | with_reducible exact HQ.out | with_reducible exact K4 | with_reducible exact K5 | with_reducible exact KA5 _ | with_reducible exact K7 | with_reducible exact K8 | with_reducible exact KZ | exact KZ)
      (first
        | (go_at_call 56
           with_reducible refine (HSP.out A7 c7 w7 HL7.out).mono ?_
           rintro e w8 ⟨B8, m8, d8, rfl, ho8, hb8⟩
           have HB8 : Hid (Below w2.heap.size w2 w8) := Lib.hid (HB7.out.trans (hb8.mono HB7.out.size))
           have HS8 : Hid (w2.heap.size ≤ w7.heap.size ∧ w7.heap.size ≤ w8.heap.size) := Lib.hid ⟨HB7.out.size, hb8.size⟩
           have HKA8 := Lib.hid (HKA.out.below HB8.out HKA.out.lt)
           have HKB8 := Lib.hid (HKB.out.below HB8.out HKB.out.lt)
           have K8 := HCE.out w8 HKA8.out HKB8.out
           have HR8 := Lib.hid (HR2.out.below HB8.out HR2.out.lt)
           obtain ⟨rr0, rr1, rr2, rr3⟩ := cells4 HR8.out
           obtain ⟨ff0, ff1, ff2, ff3⟩ := frozenM HR8.out
           have KZ := HCE.out _ ((((HKA8.out.far (p := ⟨g + 2, 0, none⟩) (by show g ≠ g + 2; omega) (.int .i64 p')).far (p := ⟨g + 2, 1, none⟩) (by show g ≠ g + 2; omega) (.int .i64 (spanN p' C (bothR xs ys C R R')))).far (p := ⟨g + 2, 2, none⟩) (by show g ≠ g + 2; omega) (.int .i64 C)).far (p := ⟨g + 2, 3, none⟩) (by show g ≠ g + 2; omega) (.slice B8 m8 d8)) ((((HKB8.out.far (p := ⟨g + 2, 0, none⟩) (by show g + 1 ≠ g + 2; omega) (.int .i64 p')).far (p := ⟨g + 2, 1, none⟩) (by show g + 1 ≠ g + 2; omega) (.int .i64 (spanN p' C (bothR xs ys C R R')))).far (p := ⟨g + 2, 2, none⟩) (by show g + 1 ≠ g + 2; omega) (.int .i64 C)).far (p := ⟨g + 2, 3, none⟩) (by show g + 1 ≠ g + 2; omega) (.slice B8 m8 d8))
           have HO8 := Lib.hid ho8
           have HRP : Hid (Blk ((((w8.setCell ⟨g + 2, 0, none⟩ (.int .i64 p')).setCell ⟨g + 2, 1, none⟩ (.int .i64 (spanN p' C (bothR xs ys C R R')))).setCell ⟨g + 2, 2, none⟩ (.int .i64 C)).setCell ⟨g + 2, 3, none⟩ (.slice B8 m8 d8)) (g + 2) 26 #[.int .i64 p', .int .i64 (spanN p' C (bothR xs ys C R R')), .int .i64 C, .slice B8 m8 d8]) := Lib.hid ((((HR8.out.set_ 0 _).set_ 1 _).set_ 2 _).set_ 3 _)
           have HGP := Lib.hid (grown_putM w8 (g + 2) (.int .i64 p') (.int .i64 (spanN p' C (bothR xs ys C R R'))) (.int .i64 C) (.slice B8 m8 d8))
           clear ho8 hb8)
        | (go_at_call 57
           with_reducible refine HCC.out.mono ?_
           rintro e w7 ⟨A7, c7, rfl, hl7, hb7⟩
           have HL7 : Hid (LS w7 A7 (R + R') (bothR xs ys C R R')) := Lib.hid hl7
           have HB7 : Hid (Below w2.heap.size w2 w7) := Lib.hid ((HB5.out.alloc HB5.out.size _).trans (hb7.mono (by have := HB5.out.size; simp; omega)))
           have K7 := HCE.out w7 (HKA.out.below HB7.out HKA.out.lt) (HKB.out.below HB7.out HKB.out.lt)
           clear hl7 hb7)
        | (go_at_call 58
           with_reducible refine (HARA.out _ HBb.out).mono ?_
           rintro e w5 ⟨ga, rfl, hls5, hb5⟩
           have HB5 : Hid (Below w2.heap.size w2 w5) := Lib.hid (HBb.out.trans (hb5.mono HBb.out.size))
           have HLA5 := Lib.hid hls5
           have HLB5 := Lib.hid (HLb.out.below hb5 (Nat.le_refl _))
           clear hls5 hb5
           have HKA5 := Lib.hid (HKA.out.below HB5.out HKA.out.lt)
           have HKB5 := Lib.hid (HKB.out.below HB5.out HKB.out.lt)
           have K5 := HCE.out w5 HKA5.out HKB5.out
           have KA5 := fun o => HCE.out (w5.alloc o) (HKA5.out.alloc o) (HKB5.out.alloc o)
           have HCC := Lib.hid (HCT.out ga gb w5 HLA5.out HLB5.out))
        | (go_at_call 58
           with_reducible refine (HARB.out _ HBa.out).mono ?_
           rintro e w5 ⟨gb, rfl, hls5, hb5⟩
           have HB5 : Hid (Below w2.heap.size w2 w5) := Lib.hid (HBa.out.trans (hb5.mono HBa.out.size))
           have HLB5 := Lib.hid hls5
           have HLA5 := Lib.hid (HLa.out.below hb5 (Nat.le_refl _))
           clear hls5 hb5
           have HKA5 := Lib.hid (HKA.out.below HB5.out HKA.out.lt)
           have HKB5 := Lib.hid (HKB.out.below HB5.out HKB.out.lt)
           have K5 := HCE.out w5 HKA5.out HKB5.out
           have KA5 := fun o => HCE.out (w5.alloc o) (HKA5.out.alloc o) (HKB5.out.alloc o)
           have HCC := Lib.hid (HCT.out ga gb w5 HLA5.out HLB5.out))
        | (go_at_call 58
           with_reducible refine (HARA.out _ ((Below.refl _ _).drew)).mono ?_
           rintro e w4 ⟨ga, rfl, hls4, hb4⟩
           have HBa : Hid (Below w2.heap.size w2 w4) := Lib.hid (((Below.refl _ _).drew).trans hb4)
           have HLa := Lib.hid hls4
           have K4 := HCE.out w4 (HKA.out.below HBa.out HKA.out.lt) (HKB.out.below HBa.out HKB.out.lt)
           clear hls4 hb4)
        | (go_at_call 58
           with_reducible refine (HARB.out _ ((Below.refl _ _).drew)).mono ?_
           rintro e w4 ⟨gb, rfl, hls4, hb4⟩
           have HBb : Hid (Below w2.heap.size w2 w4) := Lib.hid (((Below.refl _ _).drew).trans hb4)
           have HLb := Lib.hid hls4
           have K4 := HCE.out w4 (HKA.out.below HBb.out HKA.out.lt) (HKB.out.below HBb.out HKB.out.lt)
           clear hls4 hb4))
    all_goals
      (go_wp2
       refine bodyPost_ret (results_mx_tmp Try.results18 _ _ _ 26 #[.int .i64 p', .int .i64 (spanN p' C (bothR xs ys C R R')), .int .i64 C, .slice B8 m8 d8] _ rfl HRP.out Try.underlying26 rfl Try.infoMx) rfl ?_
       have l1 := HSZ.out
       have l2 := HG.out
       have l3 := HGP.out.size
       have l4 := HS8.out
       have l5 := HB.out.size
       have l6 := HB2.out.size
       refine ⟨B8, m8, d8, rfl, ?_, ?_⟩
       · exact (HO8.out.grown HGP.out (fun q hq => by injection hq with hq; omega)).wide (by omega) l3
       · exact ((HB.out.trans (HB2.out.mono l5)).trans (HB8.out.mono (by omega))).grown HGP.out (by omega) (by rintro q ⟨⟩; omega))
end Go.Proofs.Ytdepalpkcmfegaa

/-
  Opening a slice of integers that came in; closed facts of this dump. No conditions.
-/




namespace Go.Proofs.Ytdepalpkcmfegaa
open Go.ChangeShapes Go.WideShapes Go.ChangeAt Go.RowKit

theorem own : ownKnob Try.prog.godebug = none := by kernel_rfl
theorem laidOut : laidOutB Try.prog = true := by kernel_rfl

/-- What an opened slice of integers gives: it reads as its numbers. -/
theorem SI.of_cells {w : World} {a : Addr} {n : Nat} {zs : List Int} (hl : n ≤ zs.length) (hc : ∀ i, i < zs.length → w.cell? (a.add i) = some (.int .i64 (zs.getD i 0))) : SI w (some a) n (zs.take n) := by
  refine ⟨by simp; omega, fun hn => ?_⟩
  obtain ⟨b, o, s⟩ := a
  have h0 := hc 0 (by omega)
  have hs : s = none := by simpa [Addr.add] using World.cell?_spot h0
  subst hs
  refine ⟨b, o, rfl, block_lt_of_cell (a := ⟨b, o, none⟩) (by simpa [Addr.add] using h0), fun k hk => ?_⟩
  rw [nth_take hk, ← add_pt]
  exact hc k (by omega)

/-- Every number fits an int. -/
def Fits (xs : List Int) : Prop := ∀ x ∈ xs, -9223372036854775808 ≤ x ∧ x ≤ 9223372036854775807
theorem SI.of_trod {H : Type} {enc : TypeId × Value → H} {W : World} {q : Nat} {f : Nat → Bool} {a0 : Option Addr} {len0 cap0 : Nat} {d : DataW H} {p : List MemPlace}
    (h0 : DataW.Trod enc Try.prog W q f true 22 (.slice a0 len0 cap0) d p) : ∃ xs, SI W a0 len0 xs ∧ Fits xs := by
  obtain ⟨fuel, hf⟩ := h0
  rcases open_ints Try.underlying22 Try.underlying3 (by kernel_rfl) hf with ⟨hcs, _⟩ | ⟨x, l, c, zs, hcs, _, hl, hm, hz, _, hcell, hwz⟩
  · simp [Value.cells] at hcs
    obtain ⟨rfl, rfl, rfl⟩ := hcs
    exact ⟨[], SI.nil _ _, fun x hx => by cases hx⟩
  · simp [Value.cells] at hcs
    obtain ⟨rfl, rfl, rfl⟩ := hcs
    exact ⟨_, SI.of_cells (by rw [hz]; split <;> omega) hcell, fun n hn => bounds_i64 (hwz n (List.mem_of_mem_take hn))⟩
end Go.Proofs.Ytdepalpkcmfegaa

/-
  Opening a puzzle that came in. No conditions.
-/


namespace Go.Proofs.Ytdepalpkcmfegaa
open Go.ChangeShapes Go.WideShapes Go.ChangeAt Go.RowKit

theorem Blk.within_ {w w' : World} {g lo hi : Nat} {t : TypeId} {cs : Array Value} (h : Blk w g t cs) (hw : Within lo hi w w') (hd : g < lo ∨ hi ≤ g) : Blk w' g t cs := (hw.2.2.2.2 g h.lt hd).trans h
/-- Three slices that read as lists. -/
def PS (w : World) (A1 A2 A3 : Option Addr) (n1 n2 n3 : Nat) (x1 x2 x3 : List Int) : Prop := SI w A1 n1 x1 ∧ SI w A2 n2 x2 ∧ SI w A3 n3 x3
theorem PS.below {w w' : World} {A1 A2 A3 : Option Addr} {n1 n2 n3 B : Nat} {x1 x2 x3 : List Int} (h : PS w A1 A2 A3 n1 n2 n3 x1 x2 x3) (hb : Below B w w') (hB : w.heap.size ≤ B) : PS w' A1 A2 A3 n1 n2 n3 x1 x2 x3 := ⟨h.1.below hb hB, h.2.1.below hb hB, h.2.2.below hb hB⟩
theorem PS.lens {w : World} {A1 A2 A3 : Option Addr} {n1 n2 n3 : Nat} {x1 x2 x3 : List Int} (h : PS w A1 A2 A3 n1 n2 n3 x1 x2 x3) : x1.length = n1 ∧ x2.length = n2 ∧ x3.length = n3 := ⟨h.1.1, h.2.1.1, h.2.2.1⟩
theorem OwnP.len {w : World} {lo hi n1 c1 n2 c2 n3 c3 : Nat} {A1 A2 A3 : Option Addr} {x1 x2 x3 : List Int} (h : OwnP w lo hi A1 A2 A3 n1 c1 n2 c2 n3 c3 x1 x2 x3) : x1.length = n1 ∧ x2.length = n2 ∧ x3.length = n3 := h.lens
theorem OwnP.caps {w : World} {lo hi n1 c1 n2 c2 n3 c3 : Nat} {A1 A2 A3 : Option Addr} {x1 x2 x3 : List Int} (h : OwnP w lo hi A1 A2 A3 n1 c1 n2 c2 n3 c3 x1 x2 x3) : n1 ≤ c1 ∧ n2 ≤ c2 ∧ n3 ≤ c3 := by
  obtain ⟨p, q, _, _, _, h1, h2, h3⟩ := h; exact ⟨h1.cap, h2.cap, h3.cap⟩
end Go.Proofs.Ytdepalpkcmfegaa

/-
  Opening a matrix that came in. No conditions.
-/



namespace Go.Proofs.Ytdepalpkcmfegaa
open Go.ChangeShapes Go.WideShapes Go.ChangeAt Go.RowKit

theorem MX.of_trod {H : Type} {enc : TypeId × Value → H} {W : World} {q : Nat} {f : Nat → Bool} {cs : Array Value} {d : DataW H} {p : List MemPlace} (hsz : cs.size = 4)
    (h0 : DataW.Trod enc Try.prog W q f true 24 (.agg cs) d p) : ∃ (P R C : Int) (A : Option Addr) (n k : Nat) (xs : List Int), cs = #[.int .i64 P, .int .i64 R, .int .i64 C, .slice A n k] ∧ SI W A n xs ∧ n ≤ 9223372036854775807 ∧
      (-9223372036854775808 ≤ P ∧ P ≤ 9223372036854775807) ∧ (-9223372036854775808 ≤ R ∧ R ≤ 9223372036854775807) ∧ (-9223372036854775808 ≤ C ∧ C ≤ 9223372036854775807) ∧ Fits xs := by
  obtain ⟨v0, v1, v2, v3, rfl⟩ : ∃ v0 v1 v2 v3, cs = #[v0, v1, v2, v3] := by
    obtain ⟨l⟩ := cs
    match l, hsz with
    | [a, b, c, d], _ => exact ⟨a, b, c, d, rfl⟩
  obtain ⟨fuel, hf⟩ := h0
  obtain ⟨xs, n, _, _, _, hlen, hx⟩ := DataW.trod_struct Try.underlying24 hf
  have e0 := hx 0 _ rfl
  have e1 := hx 1 _ rfl
  have e2 := hx 2 _ rfl
  have e3 := hx 3 _ rfl
  obtain ⟨y0, y1, y2, y3, rfl⟩ : ∃ y0 y1 y2 y3, xs = [y0, y1, y2, y3] := by
    match xs, hlen with
    | [a, b, c, d], _ => exact ⟨a, b, c, d, rfl⟩
  have ci : Try.prog.cellsOf 3 = 1 := by kernel_rfl
  have cs : Try.prog.cellsOf 22 = 1 := by kernel_rfl
  have k0 : DataW.trod enc Try.prog W q f true n 3 [v0] = some y0 := by simpa [ci, Value.cells] using e0
  have k1 : DataW.trod enc Try.prog W q f true n 3 [v1] = some y1 := by simpa [ci, Value.cells] using e1
  have k2 : DataW.trod enc Try.prog W q f true n 3 [v2] = some y2 := by simpa [ci, Value.cells] using e2
  have k3 : DataW.trod enc Try.prog W q f true n 22 [v3] = some y3 := by simpa [cs, Value.cells] using e3
  obtain ⟨z0, hz0, _, wf0⟩ := DataW.trod_int Try.underlying3 k0
  obtain ⟨z1, hz1, _, wf1⟩ := DataW.trod_int Try.underlying3 k1
  obtain ⟨z2, hz2, _, wf2⟩ := DataW.trod_int Try.underlying3 k2
  obtain ⟨B3, m3, d3, l3, h3, s3, b3, f3⟩ : ∃ A n' c' l, v3 = .slice A n' c' ∧ SI W A n' l ∧ n' ≤ 9223372036854775807 ∧ Fits l := by
    rcases open_ints Try.underlying22 Try.underlying3 (by kernel_rfl) k3 with ⟨hcs, _⟩ | ⟨x, l, c, zs, hcs, _, hl, hm, hzs, _, hcell, hwz⟩
    · exact ⟨none, 0, 0, [], by simpa using hcs, SI.nil _ _, by omega, by intro z hz; cases hz⟩
    · exact ⟨some x, l, c, zs.take l, by simpa using hcs, SI.of_cells (by rw [hzs]; split <;> omega) hcell, by unfold maxLen at hm; omega, fun z hz => bounds_i64 (hwz z (List.mem_of_mem_take hz))⟩
  have hz0' : v0 = .int .i64 z0 := by simpa using hz0
  have hz1' : v1 = .int .i64 z1 := by simpa using hz1
  have hz2' : v2 = .int .i64 z2 := by simpa using hz2
  subst hz0' hz1' hz2' h3
  exact ⟨z0, z1, z2, B3, m3, d3, l3, rfl, s3, b3, by have := bounds_i64 wf0; omega, by have := bounds_i64 wf1; omega, by have := bounds_i64 wf2; omega, f3⟩
end Go.Proofs.Ytdepalpkcmfegaa

/-
  Laws with two matrices in: a region that copies both, calls, and puts the answer into a variable made at any time. No conditions.
-/



namespace Go.Proofs.Ytdepalpkcmfegaa
open Go.RowKit

/-- The world at a call, by a name. -/
theorem calls_here {P : Program} {f : FuncId} {args : Array Value} {W : World} {Q : Ending → World → Prop} (h : ∀ u, u = W → Calls P f args u Q) : Calls P f args W Q := h W rfl
theorem Blk.eq_ {v u : World} {g : Nat} {t : TypeId} {cs : Array Value} (h : v = u) (hb : Blk u g t cs) : Blk v g t cs := h ▸ hb
/-- A matrix of its own, in a variable of its own. -/
def BoxedM (w0 wx : World) (gW lo hi : Nat) (P : Option Addr) (n c : Nat) (zp zr zc : Int) (z : List Int) : Prop :=
  Own wx lo hi P n c z ∧ Blk wx gW 26 #[.int .i64 zp, .int .i64 zr, .int .i64 zc, .slice P n c] ∧ w0.heap.size ≤ lo ∧ hi ≤ wx.heap.size ∧ (gW < lo ∨ hi ≤ gW) ∧ w0.heap.size ≤ gW ∧ Below w0.heap.size w0 wx
theorem below_put4 {B : Nat} {a w : World} (h : Below B a w) {g : Nat} (hg : B ≤ g) (x0 x1 x2 x3 : Value) : Below B a ((((w.setCell ⟨g, 0, none⟩ x0).setCell ⟨g, 1, none⟩ x1).setCell ⟨g, 2, none⟩ x2).setCell ⟨g, 3, none⟩ x3) :=
  (((h.setCell (p := ⟨g, 0, none⟩) hg x0).setCell (p := ⟨g, 1, none⟩) hg x1).setCell (p := ⟨g, 2, none⟩) hg x2).setCell (p := ⟨g, 3, none⟩) hg x3
theorem BoxedM.put {w0 u : World} {gW lo hi : Nat} {P : Option Addr} {n c : Nat} {zp zr zc : Int} {z : List Int} (ho : Own u lo hi P n c z) {x0 x1 x2 x3 : Value} (hk : Blk u gW 26 #[x0, x1, x2, x3]) (h1 : w0.heap.size ≤ lo) (h2 : hi ≤ u.heap.size) (h3 : gW < lo ∨ hi ≤ gW) (h4 : w0.heap.size ≤ gW) (hb : Below w0.heap.size w0 u) :
    BoxedM w0 ((((u.setCell ⟨gW, 0, none⟩ (.int .i64 zp)).setCell ⟨gW, 1, none⟩ (.int .i64 zr)).setCell ⟨gW, 2, none⟩ (.int .i64 zc)).setCell ⟨gW, 3, none⟩ (.slice P n c)) gW lo hi P n c zp zr zc z := by
  have hg := grown_putM u gW (.int .i64 zp) (.int .i64 zr) (.int .i64 zc) (.slice P n c)
  have hb' := below_put4 hb h4 (.int .i64 zp) (.int .i64 zr) (.int .i64 zc) (.slice P n c)
  exact ⟨ho.grown hg (fun k hk => by injection hk with hk; omega), (((hk.set_ 0 _).set_ 1 _).set_ 2 _).set_ 3 _, h1, Nat.le_trans h2 hg.size, h3, h4, hb'⟩
theorem BoxedM.new {w0 u : World} {lo hi : Nat} {P : Option Addr} {n c : Nat} {zp zr zc : Int} {z : List Int} (ho : Own u lo hi P n c z) (h1 : w0.heap.size ≤ lo) (h2 : hi ≤ u.heap.size) (hb : Below w0.heap.size w0 u) :
    BoxedM w0 (u.alloc (.cells #[.int .i64 zp, .int .i64 zr, .int .i64 zc, .slice P n c] 26)) u.heap.size lo hi P n c zp zr zc z :=
  ⟨ho.below (Below.alloc_self _ _) h2, Blk.new _ _ _, h1, by simp; omega, .inr h2, hb.size, hb.alloc hb.size _⟩
end Go.Proofs.Ytdepalpkcmfegaa

/-
  Products of matrices: the model. No conditions.
-/




namespace Go.Proofs.Ytdepalpkcmfegaa
open Go.RowKit

theorem DM.uniq {d z : List Int} {R C : Nat} {N : Nat → Nat → Int} (h : DM d R C N) (h' : DM z R C N) (hC : 0 < C) : d = z := by
  refine nth_ext (by rw [h.1, h'.1]) fun q hq => ?_
  rw [h.1] at hq
  have hi : q / C < R := Nat.div_lt_of_lt_mul (by rw [Nat.mul_comm]; exact hq)
  have hj := Nat.mod_lt q hC
  have e : q / C * C + q % C = q := by rw [Nat.mul_comm]; exact Nat.div_add_mod q C
  have h1 := h.2 _ _ hi hj
  have h2 := h'.2 _ _ hi hj
  rw [e] at h1 h2
  rw [h1, h2]
theorem DM.ex {R C : Nat} (N : Nat → Nat → Int) : ∃ z, DM z R C N := by
  refine ⟨(List.range (R * C)).map fun q => N (q / C) (q % C), by simp, fun i c hi hc => ?_⟩
  rw [nth_rangeMap _ (idx_lt hi hc)]
  have h1 : (i * C + c) / C = i := by rw [Nat.mul_comm, Nat.mul_add_div (by omega), Nat.div_eq_of_lt hc, Nat.add_zero]
  have h2 : (i * C + c) % C = c := by rw [Nat.mul_comm, Nat.mul_add_mod, Nat.mod_eq_of_lt hc]
  rw [h1, h2]
/-- A row times a column, as far as a place. -/
def dotN (xs ys : List Int) (K C i j : Nat) : Nat → Int
  | 0 => 0
  | k + 1 => dotN xs ys K C i j k + nth xs (i * K + k) * nth ys (k * C + j)
theorem dotN_b {p : Int} {xs ys : List Int} {K C i j : Nat} (hp : p ≤ 7) (hx : Rg p xs) (hy : Rg p ys) : ∀ k : Nat, 0 ≤ dotN xs ys K C i j k ∧ dotN xs ys K C i j k ≤ 49 * (k : Int)
  | 0 => by simp [dotN]
  | k + 1 => by
    have ih := dotN_b (i := i) (j := j) (K := K) (C := C) hp hx hy k
    have h1 := hx (i * K + k)
    have h2 := hy (k * C + j)
    have h3 : 0 ≤ nth xs (i * K + k) * nth ys (k * C + j) := Int.mul_nonneg h1.1 h2.1
    have h4 : nth xs (i * K + k) * nth ys (k * C + j) ≤ 7 * 7 := Int.mul_le_mul (by omega) (by omega) h2.1 (by decide)
    simp only [dotN, Int.natCast_add, Int.natCast_one]
    omega
def mulM (p : Int) (xs ys : List Int) (K C : Nat) : Nat → Nat → Int := fun i j => dotN xs ys K C i j K % p
/-- The program: rows before i done, row i as far as k. The document: rows before i done, row i as far as the column j. -/
def mulK (p : Int) (xs ys : List Int) (K C i k : Nat) : Nat → Nat → Int := fun i' j => if i' < i then dotN xs ys K C i' j K % p else if i' = i then dotN xs ys K C i' j k % p else 0
def mulJ (p : Int) (xs ys : List Int) (K C i j : Nat) : Nat → Nat → Int := fun i' j' => if i' < i ∨ i' = i ∧ j' < j then dotN xs ys K C i' j' K % p else 0
theorem mulK_row (p : Int) (xs ys : List Int) (K C i : Nat) (i' j : Nat) : mulK p xs ys K C i K i' j = mulK p xs ys K C (i + 1) 0 i' j := by
  unfold mulK
  by_cases h1 : i' < i
  · rw [if_pos h1, if_pos (by omega)]
  · rw [if_neg h1]
    by_cases h2 : i' = i
    · rw [if_pos h2, if_pos (by omega)]
    · rw [if_neg h2, if_neg (by omega)]
      by_cases h3 : i' = i + 1
      · rw [if_pos h3]; simp [dotN]
      · rw [if_neg h3]
theorem mulK_zero (p : Int) (xs ys : List Int) (K C i j : Nat) : mulK p xs ys K C 0 0 i j = 0 := by
  unfold mulK
  rw [if_neg (by omega)]
  by_cases h : i = 0
  · rw [if_pos h]; simp [dotN]
  · rw [if_neg h]
theorem mulK_end {p : Int} {xs ys : List Int} {K C R i j : Nat} (h : i < R) : mulK p xs ys K C R 0 i j = mulM p xs ys K C i j := by
  unfold mulK mulM; rw [if_pos h]
theorem mulJ_zero (p : Int) (xs ys : List Int) (K C i j : Nat) : mulJ p xs ys K C 0 0 i j = 0 := by
  unfold mulJ; rw [if_neg (by omega)]
theorem mulJ_row {p : Int} {xs ys : List Int} {K C i i' j : Nat} (h : j < C) : mulJ p xs ys K C i C i' j = mulJ p xs ys K C (i + 1) 0 i' j := by
  unfold mulJ
  by_cases h1 : i' < i ∨ i' = i ∧ j < C
  · rw [if_pos h1, if_pos (by omega)]
  · rw [if_neg h1, if_neg (by omega)]
theorem mulJ_end {p : Int} {xs ys : List Int} {K C R i j : Nat} (h : i < R) : mulJ p xs ys K C R 0 i j = mulM p xs ys K C i j := by
  unfold mulJ mulM; rw [if_pos (.inl h)]
theorem mulJ_step {p : Int} {xs ys : List Int} {K C i j : Nat} (i' j' : Nat) : updM (mulJ p xs ys K C i j) i j (dotN xs ys K C i j K % p) i' j' = mulJ p xs ys K C i (j + 1) i' j' := by
  unfold updM mulJ
  by_cases h : i' = i ∧ j' = j
  · obtain ⟨rfl, rfl⟩ := h
    rw [if_pos ⟨rfl, rfl⟩, if_pos (by omega)]
  · rw [if_neg h]
    by_cases h1 : i' < i ∨ i' = i ∧ j' < j
    · rw [if_pos h1, if_pos (by omega)]
    · rw [if_neg h1, if_neg (by omega)]
theorem zeros_dm {R C : Nat} {N : Nat → Nat → Int} (h : ∀ i c, N i c = 0) : DM (List.replicate (R * C) 0) R C N :=
  ⟨by simp, fun i c hi hc => by rw [h]; simp [nth, List.getD, idx_lt hi hc]⟩
theorem mulK_step {p : Int} {xs ys d : List Int} {R K C i k : Nat} (h : DM d R C (mulK p xs ys K C i k)) (hi : i < R) : DM (addO p d (i * C) (nth xs (i * K + k)) (rowC ys C C k) C) R C (mulK p xs ys K C i (k + 1)) := by
  refine ⟨by rw [addO_len]; exact h.1, fun i' j hi' hj => ?_⟩
  rw [addO_nth (by rw [h.1]; exact idx_lt hi' hj)]
  have h0 := h.2 i' j hi' hj
  by_cases e : i' = i
  · subst e
    rw [if_pos (by omega), h0, show i' * C + j - i' * C = j by omega, rowC_nth hj]
    unfold mulK
    rw [if_neg (by omega), if_pos rfl, if_neg (by omega), if_pos rfl]
    simp only [dotN]
    rw [Int.emod_add_emod]
  · have hne : ¬ (i * C ≤ i' * C + j ∧ i' * C + j < i * C + C) := fun hh => by
      rcases Nat.lt_or_gt_of_ne e with hlt | hgt
      · have h5 : (i' + 1) * C ≤ i * C := Nat.mul_le_mul (by omega) (Nat.le_refl _)
        rw [Nat.add_mul, Nat.one_mul] at h5; omega
      · have h5 : (i + 1) * C ≤ i' * C := Nat.mul_le_mul (by omega) (Nat.le_refl _)
        rw [Nat.add_mul, Nat.one_mul] at h5; omega
    rw [if_neg hne, h0]
    unfold mulK
    by_cases h1 : i' < i
    · rw [if_pos h1, if_pos h1]
    · rw [if_neg h1, if_neg h1, if_neg e, if_neg e]
def mulB (p r c : Int) (xs : List Int) (p' r' c' : Int) (ys : List Int) : Bool := matB p r c xs && (matB p' r' c' ys && (decide (p = p') && decide (c = r')))
/-- What MulMatrices answers. -/
def MulIs (p r c : Int) (xs : List Int) (p' r' c' : Int) (ys : List Int) (zp zr zc : Int) (z : List Int) (ok : Bool) : Prop :=
  ok = mulB p r c xs p' r' c' ys ∧ (ok = true → zp = p ∧ zr = r ∧ zc = c' ∧ DM z r.toNat c'.toNat (mulM p xs ys c.toNat c'.toNat)) ∧ (ok = false → zp = 0 ∧ zr = 0 ∧ zc = 0 ∧ z = [])
theorem mul_ex (p r c : Int) (xs : List Int) (p' r' c' : Int) (ys : List Int) : ∃ zp zr zc z ok, MulIs p r c xs p' r' c' ys zp zr zc z ok := by
  cases h : mulB p r c xs p' r' c' ys with
  | true =>
    obtain ⟨z, hz⟩ := DM.ex (R := r.toNat) (C := c'.toNat) (mulM p xs ys c.toNat c'.toNat)
    exact ⟨_, _, _, z, true, h.symm, fun _ => ⟨rfl, rfl, rfl, hz⟩, fun h' => absurd h' (by decide)⟩
  | false => exact ⟨0, 0, 0, [], false, h.symm, fun h' => absurd h' (by decide), fun _ => ⟨rfl, rfl, rfl, rfl⟩⟩
theorem mulB_yes {p r c : Int} {xs : List Int} {p' r' c' : Int} {ys : List Int} (h : mulB p r c xs p' r' c' ys = true) : ∃ R K C : Nat, r = (R : Int) ∧ c = (K : Int) ∧ p' = p ∧ r' = (K : Int) ∧ c' = (C : Int) ∧ P7 p ∧ R ≤ 7 ∧ 1 ≤ K ∧ K ≤ 7 ∧ 1 ≤ C ∧ C ≤ 7 ∧ xs.length = R * K ∧ ys.length = K * C ∧ Rg p xs ∧ Rg p ys := by
  unfold mulB at h
  simp only [Bool.and_eq_true, decide_eq_true_eq] at h
  obtain ⟨h1, h2, rfl, rfl⟩ := h
  have hM := matB_P h1
  have hM' := matB_P h2
  obtain ⟨R, K, rfl, e, hR7, hC1, hC7, hxl⟩ := hM.nats
  obtain ⟨K', C, e', e2, hR7', hC1', hC7', hxl'⟩ := hM'.nats
  have eK : K' = K := by omega
  subst eK
  exact ⟨R, K', C, rfl, e, rfl, e, e2, hM.1, hR7, hC1, hC7, hC1', hC7', hxl, hxl', hM.rg, hM'.rg⟩
theorem MulIs.len {p r c : Int} {xs : List Int} {p' r' c' : Int} {ys : List Int} {zp zr zc : Int} {z : List Int} {ok : Bool} (h : MulIs p r c xs p' r' c' ys zp zr zc z ok) : z.length ≤ 1000 := by
  cases ok with
  | true =>
    obtain ⟨_, _, _, hz⟩ := h.2.1 rfl
    obtain ⟨R, K, C, rfl, rfl, rfl, rfl, rfl, hp7, hR7, _, _, hC1, hC7, _⟩ := mulB_yes h.1.symm
    have := hz.1
    have := nat_mul_small (r := R) (c := C) (by omega) (by omega)
    simp only [Int.toNat_natCast] at *
    omega
  | false => obtain ⟨_, _, _, rfl⟩ := h.2.2 rfl; simp
section
variable {w0 w w' : World} {gW lo hi : Nat} {A : Option Addr} {n c : Nat} {zp zr zc : Int} {z z' : List Int}
theorem BoxedM.below (h : BoxedM w0 w gW lo hi A n c zp zr zc z) (hb : Below w.heap.size w w') : BoxedM w0 w' gW lo hi A n c zp zr zc z := by
  obtain ⟨h1, h2, h3, h4, h5, h6, h7⟩ := h
  have hz := hb.size
  exact ⟨h1.below hb h4, h2.below hb h2.lt, h3, by omega, h5, h6, h7.trans (hb.mono h7.size)⟩
theorem BoxedM.upd {gd : Nat} (h : BoxedM w0 w gW lo hi (some ⟨gd, 0, none⟩) n c zp zr zc z) (hd : Below w.heap.size w w') {w2 : World} (hg : w'.grownBy w2 (some gd)) (ho : Own w2 lo hi (some ⟨gd, 0, none⟩) n c z') : BoxedM w0 w2 gW lo hi (some ⟨gd, 0, none⟩) n c zp zr zc z' := by
  obtain ⟨h1, h2, h3, h4, h5, h6, h7⟩ := h
  have hl := h1.lt gd rfl
  have hz := hd.size
  have hz2 := hg.size
  exact ⟨ho, (h2.below hd h2.lt).grown hg (fun e => by injection e with e; omega), h3, by omega, h5, h6, (h7.trans (hd.mono h7.size)).grown hg (by have := h7.size; omega) (by rintro q ⟨⟩; omega)⟩
theorem BoxedM.put1 {gd : Nat} (h : BoxedM w0 w gW lo hi (some ⟨gd, 0, none⟩) n c zp zr zc z) (q : Nat) (v : Int) : BoxedM w0 (w.setCell ⟨gd, q, none⟩ (.int .i64 v)) gW lo hi (some ⟨gd, 0, none⟩) n c zp zr zc (z.set q v) := by
  obtain ⟨h1, hg⟩ := h.1.set_ (k := q) v
  exact h.upd (Below.refl _ _) hg h1
end
theorem BoxedM.of_call {w0 w2 w3 : World} {A : Option Addr} {n c : Nat} {zp zr zc : Int} {z : List Int} (ho : Own w2 w0.heap.size w2.heap.size A n c z) (hb : Below w0.heap.size w0 w2) (hk : Blk w3 w2.heap.size 26 #[.int .i64 zp, .int .i64 zr, .int .i64 zc, .slice A n c]) {o : Obj} (hg : (w2.alloc o).grownBy w3 (some w2.heap.size)) : BoxedM w0 w3 w2.heap.size w0.heap.size w2.heap.size A n c zp zr zc z := by
  have hba : Below w2.heap.size w2 (w2.alloc o) := Below.alloc_self _ _
  have hz := hba.size
  have hb3 : Below w2.heap.size w2 w3 := hba.grown hg hz (by rintro q ⟨⟩; exact Nat.le_refl _)
  exact ⟨ho.below hb3 (Nat.le_refl _), hk, Nat.le_refl _, hb3.size, .inr (Nat.le_refl _), hb.size, hb.trans (hb3.mono hb.size)⟩
theorem mk_run (n : Nat) (w : World) (hn : n ≤ 1099511627776) : ∃ g w', g = w.heap.size ∧ (Instr.makeSlice 22 (.int .i64 n) (.int .i64 n)).run Try.prog w = .ok (.slice (some ⟨g, 0, none⟩) n n) w' ∧
    Own w' g (g + 1) (some ⟨g, 0, none⟩) n n (List.replicate n 0) ∧ w.grownBy w' none ∧ g < w'.heap.size := by
  obtain ⟨i0, hi, hz0, hz1, hz2⟩ := info_parts Try.infoInt
  obtain ⟨w', hrun, r1, r2⟩ := run_make_full (P := Try.prog) w w.heap.size 22 3 i0 (.int .i64 0) 1 Try.underlying22 hi hz0 hz1 .i64 .i64 n (by rw [hz2]; omega) (by unfold maxLen; omega) (Nat.le_refl _)
  have e : (madeCells (Value.int .i64 0).cells (n * 1)).toList = (List.replicate n (0 : Int)).map (Value.int .i64) := by
    rw [show (Value.int .i64 0).cells = #[Value.int .i64 0] from rfl, Nat.mul_one, toList_madeCells_one]; simp
  rw [e] at r1
  exact ⟨w.heap.size, w', rfl, hrun, ⟨r1, fun k hk => by simp [Value.ownBlock] at hk; omega⟩, r2, (r1.lt w.heap.size rfl).2⟩

end Go.Proofs.Ytdepalpkcmfegaa

/-
  Products of matrices: the document's side. Conditions: lengths below 2^40.
-/



namespace Go.Proofs.Ytdepalpkcmfegaa
open Go.RowKit

set_option maxRecDepth 100000 in
set_option maxHeartbeats 16000000 in
theorem specMulMatrices_z (p r c p' r' c' : Int) (A A' : Option Addr) (n k n' k' : Nat) (xs ys : List Int) (w : World) (hs : SI w A n xs) (hs' : SI w A' n' ys) (hn : n ≤ 1099511627776) (hn' : n' ≤ 1099511627776) (zp zr zc : Int) (z : List Int) (ok : Bool) (hz : MulIs p r c xs p' r' c' ys zp zr zc z ok) :
    Calls Try.prog 24 #[.agg #[.int .i64 p, .int .i64 r, .int .i64 c, .slice A n k], .agg #[.int .i64 p', .int .i64 r', .int .i64 c', .slice A' n' k']] w fun e w' => FreshMxB w w' e zp zr zc z ok := by
  obtain ⟨w1, hw1⟩ : ∃ w1, w1 = (((w.alloc (.cells #[.int .i64 p, .int .i64 r, .int .i64 c, .slice A n k] 26)).alloc (.cells #[.int .i64 p', .int .i64 r', .int .i64 c', .slice A' n' k'] 26)).alloc (.cells #[.int .i64 0, .int .i64 0, .int .i64 0, .slice none 0 0] 26)) := ⟨_, rfl⟩
  obtain ⟨g, hg⟩ : ∃ g, g = w.heap.size := ⟨_, rfl⟩
  have HK0 : Hid (Blk w1 (g) 26 #[.int .i64 p, .int .i64 r, .int .i64 c, .slice A n k]) := Lib.hid (by rw [hw1, hg]; have := ((Blk.new w 26 #[.int .i64 p, .int .i64 r, .int .i64 c, .slice A n k]).alloc (.cells #[.int .i64 p', .int .i64 r', .int .i64 c', .slice A' n' k'] 26)).alloc (.cells #[.int .i64 0, .int .i64 0, .int .i64 0, .slice none 0 0] 26); simpa using this)
  have HK1 : Hid (Blk w1 (g + 1) 26 #[.int .i64 p', .int .i64 r', .int .i64 c', .slice A' n' k']) := Lib.hid (by rw [hw1, hg]; have := (Blk.new (w.alloc (.cells #[.int .i64 p, .int .i64 r, .int .i64 c, .slice A n k] 26)) 26 #[.int .i64 p', .int .i64 r', .int .i64 c', .slice A' n' k']).alloc (.cells #[.int .i64 0, .int .i64 0, .int .i64 0, .slice none 0 0] 26); simpa using this)
  have HK2 : Hid (Blk w1 (g + 2) 26 #[.int .i64 0, .int .i64 0, .int .i64 0, .slice none 0 0]) := Lib.hid (by rw [hw1, hg]; have := Blk.new ((w.alloc (.cells #[.int .i64 p, .int .i64 r, .int .i64 c, .slice A n k] 26)).alloc (.cells #[.int .i64 p', .int .i64 r', .int .i64 c', .slice A' n' k'] 26)) 26 #[.int .i64 0, .int .i64 0, .int .i64 0, .slice none 0 0]; simpa using this)
  have hb : Below w.heap.size w w1 := by rw [hw1]; go_grown
  have HB := Lib.hid hb
  have HW := Lib.hid hw1
  have HG := Lib.hid hg
  have HSZ : Hid (w1.heap.size = g + 3) := Lib.hid (by rw [hw1, hg]; simp)
  have HSA := Lib.hid (hs.below hb (Nat.le_refl _))
  have HSB := Lib.hid (hs'.below hb (Nat.le_refl _))
  have HL1 := Lib.hid hs.1
  have HL2 := Lib.hid hs'.1
  have HM1 := Lib.hid (specMatrixOk_any p r c A n k xs w1 (hs.below hb (Nat.le_refl _)) hn)
  have HM2 := Lib.hid (fun w2 (hb2 : Below w1.heap.size w1 w2) => specMatrixOk_any p' r' c' A' n' k' ys w2 (HSB.out.below hb2 (Nat.le_refl _)) hn')
  clear hw1 hg hb hs hs'
  cases hu : matB p r c xs with
  | false =>
    rw [hu] at HM1
    obtain rfl : ok = false := by rw [hz.1]; unfold mulB; simp [hu]
    obtain ⟨rfl, rfl, rfl, rfl⟩ := hz.2.2 rfl
    clear hz hu
    go_enter Try.func24, Try.ntmps24
    go_upto_region 1 with fail
    rw [← HW.out, ← HG.out]
    go_wp2_with (first
      | (refine wpList_load_rowP rfl 26 (.tmp 2) rfl g rfl 26 #[.int .i64 p, .int .i64 r, .int .i64 c, .slice A n k] _ HK0.out Try.underlying26 rfl Try.infoMx ?_)
      | (go_at_call 62
         with_reducible refine (HM1.out).mono ?_
         rintro e w2 ⟨rfl, hb2⟩
         have HB2 := Lib.hid hb2
         have HR2 := Lib.hid (HK2.out.below hb2 HK2.out.lt)
         obtain ⟨r0, r1, r2, r3⟩ := cells4 (HK1.out.below hb2 HK1.out.lt)
         clear hb2)
      | (refine wpList_store_rowP rfl 26 (.tmp 4) (.tmp 33) rfl (g + 2) #[.int .i64 0, .int .i64 0, .int .i64 0, .slice none 0 0] rfl rfl 26 #[.int .i64 0, .int .i64 0, .int .i64 0, .slice none 0 0] HR2.out Try.infoMx rfl (by simp [Value.oneCell']) ?_; intro w5 hb5 hg5)
      | fail)
    refine bodyPost_ret (results_mx_tmp Try.results24 _ _ _ 26 #[.int .i64 0, .int .i64 0, .int .i64 0, .slice none 0 0] _ rfl hb5 Try.underlying26 rfl Try.infoMx) rfl ?_
    exact FreshMxB.zero (HB.out.trans (HB2.out.mono HB.out.size)) (by have := HG.out; omega) hg5
  | true =>
    rw [hu] at HM1
    cases hv : matB p' r' c' ys with
    | false =>
      rw [hv] at HM2
      obtain rfl : ok = false := by rw [hz.1]; unfold mulB; simp [hv]
      obtain ⟨rfl, rfl, rfl, rfl⟩ := hz.2.2 rfl
      clear hz hu hv
      go_enter Try.func24, Try.ntmps24
      go_upto_region 1 with fail
      rw [← HW.out, ← HG.out]
      go_wp2_with (first
        | (refine wpList_load_rowP rfl 26 (.tmp 2) rfl g rfl 26 #[.int .i64 p, .int .i64 r, .int .i64 c, .slice A n k] _ HK0.out Try.underlying26 rfl Try.infoMx ?_)
        | (go_at_call 62
           with_reducible refine (HM1.out).mono ?_
           rintro e w2 ⟨rfl, hb2⟩
           have HB2 := Lib.hid hb2
           have HR2 := Lib.hid (HK2.out.below hb2 HK2.out.lt)
           obtain ⟨r0, r1, r2, r3⟩ := cells4 (HK1.out.below hb2 HK1.out.lt)
           clear hb2)
        | (go_at_call 62
           with_reducible refine (HM2.out _ HB2.out).mono ?_
           rintro e w3 ⟨rfl, hb3⟩
           have HB3 : Hid (Below w1.heap.size w1 w3) := Lib.hid (HB2.out.trans (hb3.mono HB2.out.size))
           have HR3 := Lib.hid (HK2.out.below HB3.out HK2.out.lt)
           obtain ⟨q0, q1, q2, q3⟩ := cells4 (HK0.out.below HB3.out HK0.out.lt)
           clear r0 r1 r2 r3
           obtain ⟨r0, r1, r2, r3⟩ := cells4 (HK1.out.below HB3.out HK1.out.lt)
           clear hb3)
        | (refine wpList_store_rowP rfl 26 (.tmp 4) (.tmp 33) rfl (g + 2) #[.int .i64 0, .int .i64 0, .int .i64 0, .slice none 0 0] rfl rfl 26 #[.int .i64 0, .int .i64 0, .int .i64 0, .slice none 0 0] HR3.out Try.infoMx rfl (by simp [Value.oneCell']) ?_; intro w5 hb5 hg5)
        | fail)
      refine bodyPost_ret (results_mx_tmp Try.results24 _ _ _ 26 #[.int .i64 0, .int .i64 0, .int .i64 0, .slice none 0 0] _ rfl hb5 Try.underlying26 rfl Try.infoMx) rfl ?_
      exact FreshMxB.zero (HB.out.trans (HB3.out.mono HB.out.size)) (by have := HG.out; omega) hg5
    | true =>
      rw [hv] at HM2
      by_cases hp : p = p'
      case neg =>
        obtain rfl : ok = false := by rw [hz.1]; unfold mulB; simp [hp]
        obtain ⟨rfl, rfl, rfl, rfl⟩ := hz.2.2 rfl
        clear hz hu hv
        go_enter Try.func24, Try.ntmps24
        go_upto_region 1 with fail
        rw [← HW.out, ← HG.out]
        go_wp2_with (first
          | (refine wpList_load_rowP rfl 26 (.tmp 2) rfl g rfl 26 #[.int .i64 p, .int .i64 r, .int .i64 c, .slice A n k] _ HK0.out Try.underlying26 rfl Try.infoMx ?_)
          | (go_at_call 62
             with_reducible refine (HM1.out).mono ?_
             rintro e w2 ⟨rfl, hb2⟩
             have HB2 := Lib.hid hb2
             have HR2 := Lib.hid (HK2.out.below hb2 HK2.out.lt)
             obtain ⟨r0, r1, r2, r3⟩ := cells4 (HK1.out.below hb2 HK1.out.lt)
             clear hb2)
          | (go_at_call 62
             with_reducible refine (HM2.out _ HB2.out).mono ?_
             rintro e w3 ⟨rfl, hb3⟩
             have HB3 : Hid (Below w1.heap.size w1 w3) := Lib.hid (HB2.out.trans (hb3.mono HB2.out.size))
             have HR3 := Lib.hid (HK2.out.below HB3.out HK2.out.lt)
             obtain ⟨q0, q1, q2, q3⟩ := cells4 (HK0.out.below HB3.out HK0.out.lt)
             clear r0 r1 r2 r3
             obtain ⟨r0, r1, r2, r3⟩ := cells4 (HK1.out.below HB3.out HK1.out.lt)
             clear hb3)
          | (refine wpList_store_rowP rfl 26 (.tmp 4) (.tmp 33) rfl (g + 2) #[.int .i64 0, .int .i64 0, .int .i64 0, .slice none 0 0] rfl rfl 26 #[.int .i64 0, .int .i64 0, .int .i64 0, .slice none 0 0] HR3.out Try.infoMx rfl (by simp [Value.oneCell']) ?_; intro w5 hb5 hg5)
          | fail)
        refine bodyPost_ret (results_mx_tmp Try.results24 _ _ _ 26 #[.int .i64 0, .int .i64 0, .int .i64 0, .slice none 0 0] _ rfl hb5 Try.underlying26 rfl Try.infoMx) rfl ?_
        exact FreshMxB.zero (HB.out.trans (HB3.out.mono HB.out.size)) (by have := HG.out; omega) hg5
      case pos =>
        subst hp
        by_cases hc : c = r'
        case neg =>
          obtain rfl : ok = false := by rw [hz.1]; unfold mulB; simp [hc]
          obtain ⟨rfl, rfl, rfl, rfl⟩ := hz.2.2 rfl
          clear hz hu hv
          go_enter Try.func24, Try.ntmps24
          go_upto_region 1 with fail
          rw [← HW.out, ← HG.out]
          go_wp2_with (first
            | (refine wpList_load_rowP rfl 26 (.tmp 2) rfl g rfl 26 #[.int .i64 p, .int .i64 r, .int .i64 c, .slice A n k] _ HK0.out Try.underlying26 rfl Try.infoMx ?_)
            | (go_at_call 62
               with_reducible refine (HM1.out).mono ?_
               rintro e w2 ⟨rfl, hb2⟩
               have HB2 := Lib.hid hb2
               have HR2 := Lib.hid (HK2.out.below hb2 HK2.out.lt)
               obtain ⟨r0, r1, r2, r3⟩ := cells4 (HK1.out.below hb2 HK1.out.lt)
               clear hb2)
            | (go_at_call 62
               with_reducible refine (HM2.out _ HB2.out).mono ?_
               rintro e w3 ⟨rfl, hb3⟩
               have HB3 : Hid (Below w1.heap.size w1 w3) := Lib.hid (HB2.out.trans (hb3.mono HB2.out.size))
               have HR3 := Lib.hid (HK2.out.below HB3.out HK2.out.lt)
               obtain ⟨q0, q1, q2, q3⟩ := cells4 (HK0.out.below HB3.out HK0.out.lt)
               clear r0 r1 r2 r3
               obtain ⟨r0, r1, r2, r3⟩ := cells4 (HK1.out.below HB3.out HK1.out.lt)
               clear hb3)
            | (refine wpList_store_rowP rfl 26 (.tmp 4) (.tmp 33) rfl (g + 2) #[.int .i64 0, .int .i64 0, .int .i64 0, .slice none 0 0] rfl rfl 26 #[.int .i64 0, .int .i64 0, .int .i64 0, .slice none 0 0] HR3.out Try.infoMx rfl (by simp [Value.oneCell']) ?_; intro w5 hb5 hg5)
            | fail)
          refine bodyPost_ret (results_mx_tmp Try.results24 _ _ _ 26 #[.int .i64 0, .int .i64 0, .int .i64 0, .slice none 0 0] _ rfl hb5 Try.underlying26 rfl Try.infoMx) rfl ?_
          exact FreshMxB.zero (HB.out.trans (HB3.out.mono HB.out.size)) (by have := HG.out; omega) hg5
        case pos =>
          subst hc
          obtain rfl : ok = true := by rw [hz.1]; unfold mulB; simp [hu, hv]
          obtain ⟨rfl, rfl, rfl, hzd⟩ := hz.2.1 rfl
          have hyes := hz.1.symm
          clear hz hu hv
          obtain ⟨R, K, C, rfl, rfl, _, _, rfl, hp7, hR7, hK1, hK7, hC1, hC7, hxl, hyl, hxr, hyr⟩ := mulB_yes hyes
          clear hyes
          simp only [Int.toNat_natCast] at hzd
          have HZD := Lib.hid hzd
          have HXR := Lib.hid hxr
          have HYR := Lib.hid hyr
          have HXY := Lib.hid (And.intro hxl hyl)
          have HP7 := Lib.hid hp7
          have hp2 := hp7.two
          have hp9 := hp7.le
          have hpnz : zp ≠ 0 := by omega
          obtain ⟨N, hN⟩ : ∃ N, N = R * C := ⟨_, rfl⟩
          have hN49 : N ≤ 196 := by have := nat_mul_small (r := R) (c := C) (by omega) (by omega); omega
          have HN := Lib.hid hN
          have HSA' := Lib.hid (fun u (hb' : Below w1.heap.size w1 u) => HSA.out.below hb' (Nat.le_refl _))
          have HSB' := Lib.hid (fun u (hb' : Below w1.heap.size w1 u) => HSB.out.below hb' (Nat.le_refl _))
          have HGB : Hid (∀ b o, A' = some ⟨b, o, none⟩ → b < w1.heap.size) := Lib.hid (fun b o e => by obtain ⟨b', o', e', hlt, _⟩ := HSB.out.2 (by have h1 := HL2.out; have h2 : 1 * 1 ≤ K * C := Nat.mul_le_mul hK1 hC1; omega); rw [e] at e'; injection e' with e'; injection e' with e1 e2; omega)
          clear hzd hxl hyl hxr hyr hp7 hN
          go_enter Try.func24, Try.ntmps24
          go_upto_region 1 with fail
          rw [← HW.out, ← HG.out]
          go_upto_region 3 with (first
            | (refine wpList_load_rowP rfl 26 (.tmp 2) rfl g rfl 26 #[.int .i64 zp, .int .i64 R, .int .i64 K, .slice A n k] _ HK0.out Try.underlying26 rfl Try.infoMx ?_)
            | (go_at_call 62
               with_reducible refine (HM1.out).mono ?_
               rintro e w2 ⟨rfl, hb2⟩
               have HB2 := Lib.hid hb2
               have HR2 := Lib.hid (HK2.out.below hb2 HK2.out.lt)
               obtain ⟨r0, r1, r2, r3⟩ := cells4 (HK1.out.below hb2 HK1.out.lt)
               clear hb2)
            | (go_at_call 62
               with_reducible refine (HM2.out _ HB2.out).mono ?_
               rintro e w3 ⟨rfl, hb3⟩
               have HB3 : Hid (Below w1.heap.size w1 w3) := Lib.hid (HB2.out.trans (hb3.mono HB2.out.size))
               have HR3 := Lib.hid (HK2.out.below HB3.out HK2.out.lt)
               obtain ⟨q0, q1, q2, q3⟩ := cells4 (HK0.out.below HB3.out HK0.out.lt)
               clear r0 r1 r2 r3
               obtain ⟨r0, r1, r2, r3⟩ := cells4 (HK1.out.below HB3.out HK1.out.lt)
               clear hb3)
            | fail)
          clear HB2 HR2 HM1 HM2
          have hwNN := wrap_mul_nat HN.out (by omega)
          have MKS : Hid (∀ u, Below w3.heap.size w3 u → (Below w3.heap.size w3 u ∧ u.cell? ⟨g, 1, none⟩ = some (.int .i64 R) ∧ u.cell? ⟨g, 0, none⟩ = some (.int .i64 zp) ∧ u.cell? ⟨g + 1, 2, none⟩ = some (.int .i64 C))) := Lib.hid (fun u hb => by obtain ⟨a0, a1, a2, a3⟩ := cells4 (HK0.out.below (HB3.out.trans (hb.mono HB3.out.size)) HK0.out.lt); obtain ⟨b0, b1, b2, b3⟩ := cells4 (HK1.out.below (HB3.out.trans (hb.mono HB3.out.size)) HK1.out.lt); exact ⟨hb, a1, a0, b2⟩)
          have Hal : Hid (∀ o, Below w3.heap.size w3 (w3.alloc o).drew) := Lib.hid (fun o => ((Below.refl _ _).alloc (Nat.le_refl _) o).drew)
          have Hcd : Hid (Below w3.heap.size w3 w3.drew) := Lib.hid ((Below.refl _ _).drew)
          go_cut [6] from 11 (fun p6 wx => ∃ s2 lo hi A4 kd, p6 = .pointer (some ⟨s2, 0, none⟩) ∧ BoxedM w3 wx s2 lo hi A4 N kd zp R C (List.replicate N 0))
          case first =>
            go_region_held3 (fun u => Below w3.heap.size w3 u ∧ u.cell? ⟨g, 1, none⟩ = some (.int .i64 R) ∧ u.cell? ⟨g, 0, none⟩ = some (.int .i64 zp) ∧ u.cell? ⟨g + 1, 2, none⟩ = some (.int .i64 C))
              (first | with_reducible exact MKS.out _ Hcd.out | with_reducible exact MKS.out _ (Hal.out _) | with_reducible exact MKS.out _ HcS.out | with_reducible exact MKS.out _ (Below.alloc HcS.out HcS.out.size _) | exact MKS.out _ (below_put4 HcS.out HGZ.out _ _ _ _) | exact MKS.out _ (Below.alloc HcS.out HcS.out.size _) | exact MKS.out _ (below_put4 (Below.alloc HcS.out HcS.out.size _) HcS.out.size _ _ _ _))
              (first
                | (show Oper.upon _ { dst := some 45, op := _, type := _, pos := _, after := _, guard := _ } _ _ _ _
                   obtain ⟨gd, wc, hgn, hrun, ho, hb, hlt⟩ := mk_run N w3.drew (by omega)
                   rw [hrun]
                   simp only [Result.andThen, Oper.upon_value]
                   have HcS : Hid (Below w3.heap.size w3 wc) := Lib.hid (Hcd.out.grown hb Hcd.out.size (fun _ e => by cases e))
                   have HBX2 := Lib.hid (BoxedM.new (w0 := w3) (zp := zp) (zr := R) (zc := C) ho (by rw [hgn]; exact Hcd.out.size) hlt HcS.out)
                   clear hgn hrun ho hb hlt)
                | (show Oper.upon _ { dst := some 45, op := _, type := _, pos := _, after := _, guard := _ } _ _ _ _
                   obtain ⟨gd, wc, hgn, hrun, ho, hb, hlt⟩ := mk_run N (w3.alloc (.cells #[.int .i64 0, .int .i64 0, .int .i64 0, .slice none 0 0] 26)).drew (by omega)
                   rw [hrun]
                   simp only [Result.andThen, Oper.upon_value]
                   have HcS : Hid (Below w3.heap.size w3 wc) := Lib.hid ((Hal.out _).grown hb (Hal.out _).size (fun _ e => by cases e))
                   have hlt0 : w3.heap.size < gd := by rw [hgn]; show w3.heap.size < (w3.alloc _).heap.size; simp
                   have HY : Hid (Blk wc w3.heap.size 26 #[.int .i64 0, .int .i64 0, .int .i64 0, .slice none 0 0]) := Lib.hid (((Blk.new w3 26 #[.int .i64 0, .int .i64 0, .int .i64 0, .slice none 0 0]).drewN 1).grown hb (fun e => by cases e))
                   have HGZ : Hid (w3.heap.size ≤ w3.heap.size) := Lib.hid (Nat.le_refl _)
                   obtain ⟨rr0, rr1, rr2, rr3⟩ := cells4 HY.out
                   obtain ⟨ff0, ff1, ff2, ff3⟩ := frozenM HY.out
                   have HBX2 := Lib.hid (BoxedM.put (w0 := w3) (zp := zp) (zr := R) (zc := C) ho HY.out (Nat.le_of_lt hlt0) hlt (.inl hlt0) HGZ.out HcS.out)
                   clear hgn hrun ho hb hlt hlt0))
            all_goals
              (go_wp2
               go_meet
               case rel => exact ⟨_, _, _, _, _, rfl, HBX2.out⟩)
          case rest =>
            obtain ⟨w5, hwc⟩ : ∃ v, v = wc := ⟨_, rfl⟩
            subst hwc
            obtain ⟨s2, lo, hi, A4, kd, rfl, hbx⟩ := hcut
            have HBX := Lib.hid hbx
            skip
            clear hbx MKS Hal Hcd q0 q1 q2 q3 r0 r1 r2 r3
            have HB5 : Hid (Below w1.heap.size w1 w5) := Lib.hid (HB3.out.trans (HBX.out.2.2.2.2.2.2.mono HB3.out.size))
            obtain ⟨q0, q1, q2, q3⟩ := cells4 (HK0.out.below HB5.out HK0.out.lt)
            obtain ⟨r0, r1, r2, r3⟩ := cells4 (HK1.out.below HB5.out HK1.out.lt)
            go_wp2_with fail
            clear q0 q1 q2 q3 r0 r1 r2 r3
            go_loopw [7] (fun iv wr => ∃ (i : Nat) (d : List Int), i ≤ R ∧ iv = .int .i64 i ∧ BoxedM w3 wr s2 lo hi A4 N kd zp R C d ∧ DM d R C (mulJ zp xs ys K C i 0) ∧ Rg zp d)
              (fun iv _ => R - (intOf iv).toNat)
            case atStart => exact ⟨0, _, Nat.zero_le _, rfl, HBX.out, by rw [HN.out]; exact zeros_dm (mulJ_zero _ _ _ _ _), fun j => by simp [nth, List.getD_eq_getElem?_getD, List.getElem?_replicate]; split <;> simp <;> omega⟩
            case round =>
              obtain ⟨i, d, hiR, rfl, hbx, hdm, hrg⟩ := hrel
              clear HBX HB5
              have HBX := Lib.hid hbx
              have HDM := Lib.hid hdm
              have HRG := Lib.hid hrg
              have HBR : Hid (Below w1.heap.size w1 wr) := Lib.hid (HB3.out.trans (hbx.2.2.2.2.2.2.mono HB3.out.size))
              clear hbx hdm hrg
              obtain ⟨q0, q1, q2, q3⟩ := cells4 (HK0.out.below HBR.out HK0.out.lt)
              obtain ⟨r0, r1, r2, r3⟩ := cells4 (HK1.out.below HBR.out HK1.out.lt)
              by_cases hlt : i < R
              case neg =>
                obtain rfl : i = R := by omega
                go_wp2_with (first
                  | (refine wpList_load_rowP rfl 26 (.tmp 6) rfl s2 rfl 26 #[.int .i64 zp, .int .i64 i, .int .i64 C, .slice A4 N kd] _ HBX.out.2.1 Try.underlying26 rfl Try.infoMx ?_)
                  | (refine wpList_store_rowP rfl 26 (.tmp 4) (.tmp 89) rfl (g + 2) #[.int .i64 zp, .int .i64 i, .int .i64 C, .slice A4 N kd] rfl rfl 26 #[.int .i64 0, .int .i64 0, .int .i64 0, .slice none 0 0] (HK2.out.below HBR.out HK2.out.lt) Try.infoMx rfl (by simp [Value.oneCell']) ?_; intro w5 hb5 hg5)
                  | fail)
                refine bodyPost_ret (results_mx_tmp Try.results24 _ _ _ 26 #[.int .i64 zp, .int .i64 i, .int .i64 C, .slice A4 N kd] _ rfl hb5 Try.underlying26 rfl Try.infoMx) rfl ?_
                obtain rfl : d = z := DM.uniq (HDM.out.congr fun i c hi _ => mulJ_end hi) HZD.out (by omega)
                have l1 := HSZ.out
                have l2 := HG.out
                have l3 := hg5.size
                have l4 := HB.out.size
                have l5 := HBX.out.2.2.1
                have l6 := HBX.out.2.2.2.1
                have l7 := HB3.out.size
                have l8 := HBR.out.size
                refine ⟨A4, N, kd, rfl, ?_, ?_⟩
                · exact (HBX.out.1.grown hg5 (fun q hq => by injection hq with hq; omega)).wide (by omega) (by omega)
                · exact (HB.out.trans (HBR.out.mono l4)).grown hg5 (by omega) (by rintro q ⟨⟩; omega)
              case pos =>
                have hlI : (i : Int) < (R : Int) := by omega
                have hikR : (i + 1) * K ≤ R * K := Nat.mul_le_mul (by omega) (Nat.le_refl _)
                have hicR : (i + 1) * C ≤ N := by rw [HN.out]; exact Nat.mul_le_mul (by omega) (Nat.le_refl _)
                go_wp2_with fail
                clear q0 q1 q2 q3 r0 r1 r2 r3
                obtain ⟨wo, rfl⟩ : ∃ wo, wo = wr := ⟨wr, rfl⟩
                go_loopw [8] (fun jv wr => ∃ (j : Nat) (d1 : List Int), j ≤ C ∧ jv = .int .i64 j ∧ BoxedM w3 wr s2 lo hi A4 N kd zp R C d1 ∧ DM d1 R C (mulJ zp xs ys K C i j) ∧ Rg zp d1)
                  (fun jv _ => C - (intOf jv).toNat)
                case atStart => exact ⟨0, d, Nat.zero_le _, rfl, HBX.out, HDM.out, HRG.out⟩
                case round =>
                  obtain ⟨j, d1, hj, rfl, hbx, hdm, hrg⟩ := hrel
                  have HBX7 := Lib.hid hbx
                  have HDM7 := Lib.hid hdm
                  have HRG7 := Lib.hid hrg
                  have HB7 : Hid (Below w1.heap.size w1 wr) := Lib.hid (HB3.out.trans (hbx.2.2.2.2.2.2.mono HB3.out.size))
                  clear hbx hdm hrg
                  obtain ⟨q0, q1, q2, q3⟩ := cells4 (HK0.out.below HB7.out HK0.out.lt)
                  obtain ⟨r0, r1, r2, r3⟩ := cells4 (HK1.out.below HB7.out HK1.out.lt)
                  by_cases hjC : j < C
                  case neg =>
                    obtain rfl : j = C := by omega
                    go_wp2
                    go_roundw
                    case rel => exact ⟨i + 1, d1, by omega, by go_num, HBX7.out, HDM7.out.congr fun i' c _ hc => mulJ_row hc, HRG7.out⟩
                    case measure => simp [intOf]; omega
                  case pos =>
                    have hjI : (j : Int) < (C : Int) := by omega
                    go_wp2_with fail
                    clear q0 q1 q2 q3 r0 r1 r2 r3
                    obtain ⟨wo, rfl⟩ : ∃ wo, wo = wr := ⟨wr, rfl⟩
                    go_loopw [9, 10] (fun xv kv wr => ∃ q : Nat, q ≤ K ∧ kv = .int .i64 q ∧ xv = .int .i64 (dotN xs ys K C i j q) ∧ BoxedM w3 wr s2 lo hi A4 N kd zp R C d1)
                      (fun _ kv _ => K - (intOf kv).toNat)
                    case atStart => exact ⟨0, Nat.zero_le _, rfl, rfl, HBX7.out⟩
                    case round =>
                      obtain ⟨q, hq, rfl, rfl, hbx⟩ := hrel
                      skip
                      have HBX8 := Lib.hid hbx
                      have HB8 : Hid (Below w1.heap.size w1 wr) := Lib.hid (HB3.out.trans (hbx.2.2.2.2.2.2.mono HB3.out.size))
                      clear hbx
                      have hDb := dotN_b (i := i) (j := j) (K := K) (C := C) hp9 HXR.out HYR.out q
                      obtain ⟨q0, q1, q2, q3⟩ := cells4 (HK0.out.below HB8.out HK0.out.lt)
                      obtain ⟨r0, r1, r2, r3⟩ := cells4 (HK1.out.below HB8.out HK1.out.lt)
                      by_cases hqK : q < K
                      case neg =>
                        obtain rfl : q = K := by omega
                        obtain ⟨gd, hA4, hgd1, hgd2⟩ := HBX8.out.1.place (by have h3 : 1 * 1 ≤ (i + 1) * C := Nat.mul_le_mul (by omega) hC1; omega)
                        subst hA4
                        obtain ⟨Nb, m, hb1, hb2, hm⟩ := idx_wraps (i := i) (C := C) (q := j) (by omega) (by omega) (by omega)
                        have hmN : m < N := by rw [hm, HN.out]; exact idx_lt hlt hjC
                        have hmI : (m : Int) < (N : Int) := by omega
                        obtain ⟨D, hD⟩ : ∃ D, D = dotN xs ys q C i j q := ⟨_, rfl⟩
                        rw [← hD] at hDb ⊢
                        obtain ⟨V, hV⟩ : ∃ V, V = D % zp := ⟨_, rfl⟩
                        have hw3 : D.tmod zp = V := by rw [hV]; exact Int.tmod_eq_emod_of_nonneg (by omega)
                        have hVb : 0 ≤ V ∧ V < zp := by rw [hV]; exact ⟨Int.emod_nonneg _ hpnz, Int.emod_lt_of_pos _ (by omega)⟩
                        have hw4 : IntKind.i64.wrap V = V := IntWalk.i64_in _ (by omega)
                        have hst : Rg zp (d1.set m V) := fun z => by by_cases hz : m < d1.length; (rw [nth_set_at hz]; split; exact hVb; exact HRG7.out z); (rw [List.set_eq_of_length_le (by omega)]; exact HRG7.out z)
                        have HSTEP : Hid (DM (d1.set m V) R C (mulJ zp xs ys q C i (j + 1)) ∧ Rg zp (d1.set m V)) := Lib.hid ⟨by rw [hm]; exact (HDM7.out.set hlt hjC V).congr fun i' c _ _ => by rw [hV, hD]; exact mulJ_step i' c, hst⟩
                        have HBX9 := Lib.hid ((HBX8.out.below ((Below.refl _ _).drew)).put1 m V)
                        obtain ⟨t0, t1, t2, t3⟩ := cells4 HBX8.out.2.1
                        have cc := HBX8.out.1.cellAt hmN
                        have ff := HBX8.out.1.frozenAt m
                        clear hst hVb hV hD hm hgd1 hgd2
                        go_upto_region 15 with fail
                        go_region
                        go_wp2_with fail
                        go_roundw
                        case rel => exact ⟨j + 1, _, by omega, by go_num, HBX9.out, HSTEP.out.1, HSTEP.out.2⟩
                        case measure => simp [intOf]; omega
                      case pos =>
                        have hqI : (q : Int) < (K : Int) := by omega
                        obtain ⟨x, hx⟩ : ∃ x, x = nth xs (i * K + q) := ⟨_, rfl⟩
                        obtain ⟨y, hy⟩ : ∃ y, y = nth ys (q * C + j) := ⟨_, rfl⟩
                        have hxb := HXR.out (i * K + q)
                        have hyb := HYR.out (q * C + j)
                        rw [← hx] at hxb
                        rw [← hy] at hyb
                        have HAT1 := Lib.hid (fun u (hbu : Below wr.heap.size wr u) => l7At_any zp R A n k K i q xs x u (HSA'.out u (HB8.out.trans (hbu.mono HB8.out.size))) (by omega) (by omega) (by omega) (by have h1 := HL1.out; have h2 := HXY.out.1; have h3 := idx_lt hlt hqK; omega) hx.symm)
                        have HAT2 := Lib.hid (fun u (hbu : Below wr.heap.size wr u) => l7At_any zp K A' n' k' C q j ys y u (HSB'.out u (HB8.out.trans (hbu.mono HB8.out.size))) (by omega) (by omega) (by omega) (by have h1 := HL2.out; have h2 := HXY.out.2; have h3 := idx_lt hqK hjC; omega) hy.symm)
                        obtain ⟨XY, hXY⟩ : ∃ XY, XY = x * y := ⟨_, rfl⟩
                        have hXY0 : 0 ≤ XY := by rw [hXY]; exact Int.mul_nonneg hxb.1 hyb.1
                        have hXY1 : XY ≤ 49 := by rw [hXY]; exact Int.mul_le_mul (show x ≤ 7 by omega) (show y ≤ 7 by omega) hyb.1 (by decide)
                        have hw1 : IntKind.i64.wrap (x * y) = XY := by rw [← hXY]; exact IntWalk.i64_in _ (by omega)
                        obtain ⟨D, hD⟩ : ∃ D, D = dotN xs ys K C i j q := ⟨_, rfl⟩
                        have HDS : Hid (dotN xs ys K C i j (q + 1) = D + XY) := Lib.hid (by rw [dotN, ← hD, ← hx, ← hy, hXY])
                        rw [← hD] at hDb ⊢
                        have hw2 : IntKind.i64.wrap (D + XY) = D + XY := IntWalk.i64_in _ (by omega)
                        clear hx hy hD hXY hxb hyb hXY0 hXY1
                        have MKS : Hid (∀ u, Below w1.heap.size w1 u → (u.cell? ⟨g, 0, none⟩ = some (.int .i64 zp) ∧ u.cell? ⟨g, 1, none⟩ = some (.int .i64 R) ∧ u.cell? ⟨g, 2, none⟩ = some (.int .i64 K) ∧ u.cell? ⟨g, 3, none⟩ = some (.slice A n k) ∧ u.cell? ⟨g + 1, 0, none⟩ = some (.int .i64 zp) ∧ u.cell? ⟨g + 1, 1, none⟩ = some (.int .i64 K) ∧ u.cell? ⟨g + 1, 2, none⟩ = some (.int .i64 C) ∧ u.cell? ⟨g + 1, 3, none⟩ = some (.slice A' n' k'))) := Lib.hid (fun u hb => by obtain ⟨a0, a1, a2, a3⟩ := cells4 (HK0.out.below hb HK0.out.lt); obtain ⟨b0, b1, b2, b3⟩ := cells4 (HK1.out.below hb HK1.out.lt); exact ⟨a0, a1, a2, a3, b0, b1, b2, b3⟩)
                        have KS0 : wr.drew.cell? ⟨g, 0, none⟩ = some (.int .i64 zp) ∧ wr.drew.cell? ⟨g, 1, none⟩ = some (.int .i64 R) ∧ wr.drew.cell? ⟨g, 2, none⟩ = some (.int .i64 K) ∧ wr.drew.cell? ⟨g, 3, none⟩ = some (.slice A n k) ∧ wr.drew.cell? ⟨g + 1, 0, none⟩ = some (.int .i64 zp) ∧ wr.drew.cell? ⟨g + 1, 1, none⟩ = some (.int .i64 K) ∧ wr.drew.cell? ⟨g + 1, 2, none⟩ = some (.int .i64 C) ∧ wr.drew.cell? ⟨g + 1, 3, none⟩ = some (.slice A' n' k') := MKS.out wr HB8.out
                        have HKS0 := Lib.hid KS0
                        have HKS1 := Lib.hid (MKS.out wr HB8.out)
                        clear KS0
                        go_upto_region 14 with fail
                        clear q0 q1 q2 q3 r0 r1 r2 r3
                        go_region_held3 (fun u => u.cell? ⟨g, 0, none⟩ = some (.int .i64 zp) ∧ u.cell? ⟨g, 1, none⟩ = some (.int .i64 R) ∧ u.cell? ⟨g, 2, none⟩ = some (.int .i64 K) ∧ u.cell? ⟨g, 3, none⟩ = some (.slice A n k) ∧ u.cell? ⟨g + 1, 0, none⟩ = some (.int .i64 zp) ∧ u.cell? ⟨g + 1, 1, none⟩ = some (.int .i64 K) ∧ u.cell? ⟨g + 1, 2, none⟩ = some (.int .i64 C) ∧ u.cell? ⟨g + 1, 3, none⟩ = some (.slice A' n' k'))
                          (first | with_reducible exact HKS0.out | with_reducible exact HKS1.out | with_reducible exact KA | with_reducible exact KB)
                          (first
                            | (go_at_call 63
                               with_reducible refine (HAT1.out _ ((Below.refl _ _).drew)).mono ?_
                               rintro e w7 ⟨rfl, hb7⟩
                               have HBa : Hid (Below wr.heap.size wr w7) := Lib.hid (((Below.refl _ _).drew).trans hb7)
                               have KA := MKS.out w7 (HB8.out.trans (HBa.out.mono HB8.out.size))
                               clear hb7)
                            | (go_at_call 63
                               with_reducible refine (HAT2.out _ HBa.out).mono ?_
                               rintro e w8 ⟨rfl, hb8⟩
                               have HBb : Hid (Below wr.heap.size wr w8) := Lib.hid (HBa.out.trans (hb8.mono HBa.out.size))
                               have KB := MKS.out w8 (HB8.out.trans (HBb.out.mono HB8.out.size))
                               clear hb8))
                        go_wp2_with fail
                        go_roundw
                        case rel => exact ⟨q + 1, by omega, by go_num, by rw [HDS.out], HBX8.out.below HBb.out⟩
                        case measure => simp [intOf]; omega

end Go.Proofs.Ytdepalpkcmfegaa

/-
  Products of matrices: the program's side. Conditions: lengths below 2^40.
-/



namespace Go.Proofs.Ytdepalpkcmfegaa
open Go.RowKit

set_option maxRecDepth 100000 in
set_option maxHeartbeats 16000000 in
theorem implMulMatrices_z (p r c p' r' c' : Int) (A A' : Option Addr) (n k n' k' : Nat) (xs ys : List Int) (w : World) (hs : SI w A n xs) (hs' : SI w A' n' ys) (hn : n ≤ 1099511627776) (hn' : n' ≤ 1099511627776) (hnk : n ≤ k) (hnk' : n' ≤ k') (zp zr zc : Int) (z : List Int) (ok : Bool) (hz : MulIs p r c xs p' r' c' ys zp zr zc z ok) :
    Calls Try.prog 25 #[.agg #[.int .i64 p, .int .i64 r, .int .i64 c, .slice A n k], .agg #[.int .i64 p', .int .i64 r', .int .i64 c', .slice A' n' k']] w fun e w' => FreshMxB w w' e zp zr zc z ok := by
  obtain ⟨w1, hw1⟩ : ∃ w1, w1 = (((w.alloc (.cells #[.int .i64 p, .int .i64 r, .int .i64 c, .slice A n k] 26)).alloc (.cells #[.int .i64 p', .int .i64 r', .int .i64 c', .slice A' n' k'] 26)).alloc (.cells #[.int .i64 0, .int .i64 0, .int .i64 0, .slice none 0 0] 26)) := ⟨_, rfl⟩
  obtain ⟨g, hg⟩ : ∃ g, g = w.heap.size := ⟨_, rfl⟩
  have HK0 : Hid (Blk w1 (g) 26 #[.int .i64 p, .int .i64 r, .int .i64 c, .slice A n k]) := Lib.hid (by rw [hw1, hg]; have := ((Blk.new w 26 #[.int .i64 p, .int .i64 r, .int .i64 c, .slice A n k]).alloc (.cells #[.int .i64 p', .int .i64 r', .int .i64 c', .slice A' n' k'] 26)).alloc (.cells #[.int .i64 0, .int .i64 0, .int .i64 0, .slice none 0 0] 26); simpa using this)
  have HK1 : Hid (Blk w1 (g + 1) 26 #[.int .i64 p', .int .i64 r', .int .i64 c', .slice A' n' k']) := Lib.hid (by rw [hw1, hg]; have := (Blk.new (w.alloc (.cells #[.int .i64 p, .int .i64 r, .int .i64 c, .slice A n k] 26)) 26 #[.int .i64 p', .int .i64 r', .int .i64 c', .slice A' n' k']).alloc (.cells #[.int .i64 0, .int .i64 0, .int .i64 0, .slice none 0 0] 26); simpa using this)
  have HK2 : Hid (Blk w1 (g + 2) 26 #[.int .i64 0, .int .i64 0, .int .i64 0, .slice none 0 0]) := Lib.hid (by rw [hw1, hg]; have := Blk.new ((w.alloc (.cells #[.int .i64 p, .int .i64 r, .int .i64 c, .slice A n k] 26)).alloc (.cells #[.int .i64 p', .int .i64 r', .int .i64 c', .slice A' n' k'] 26)) 26 #[.int .i64 0, .int .i64 0, .int .i64 0, .slice none 0 0]; simpa using this)
  have hb : Below w.heap.size w w1 := by rw [hw1]; go_grown
  have HB := Lib.hid hb
  have HW := Lib.hid hw1
  have HG := Lib.hid hg
  have HSZ : Hid (w1.heap.size = g + 3) := Lib.hid (by rw [hw1, hg]; simp)
  have HSA := Lib.hid (hs.below hb (Nat.le_refl _))
  have HSB := Lib.hid (hs'.below hb (Nat.le_refl _))
  have HL1 := Lib.hid hs.1
  have HL2 := Lib.hid hs'.1
  have HM1 := Lib.hid (implMatrixOk_any p r c A n k xs w1 (hs.below hb (Nat.le_refl _)) hn)
  have HM2 := Lib.hid (fun w2 (hb2 : Below w1.heap.size w1 w2) => implMatrixOk_any p' r' c' A' n' k' ys w2 (HSB.out.below hb2 (Nat.le_refl _)) hn')
  clear hw1 hg hb hs hs'
  cases hu : matB p r c xs with
  | false =>
    rw [hu] at HM1
    obtain rfl : ok = false := by rw [hz.1]; unfold mulB; simp [hu]
    obtain ⟨rfl, rfl, rfl, rfl⟩ := hz.2.2 rfl
    clear hz hu
    go_enter Try.func25, Try.ntmps25
    go_upto_region 1 with fail
    rw [← HW.out, ← HG.out]
    go_wp2_with (first
      | (refine wpList_load_rowP rfl 26 (.tmp 2) rfl g rfl 26 #[.int .i64 p, .int .i64 r, .int .i64 c, .slice A n k] _ HK0.out Try.underlying26 rfl Try.infoMx ?_)
      | (go_at_call 64
         with_reducible refine (HM1.out).mono ?_
         rintro e w2 ⟨rfl, hb2⟩
         have HB2 := Lib.hid hb2
         have HR2 := Lib.hid (HK2.out.below hb2 HK2.out.lt)
         obtain ⟨r0, r1, r2, r3⟩ := cells4 (HK1.out.below hb2 HK1.out.lt)
         clear hb2)
      | (refine wpList_store_rowP rfl 26 (.tmp 4) (.tmp 32) rfl (g + 2) #[.int .i64 0, .int .i64 0, .int .i64 0, .slice none 0 0] rfl rfl 26 #[.int .i64 0, .int .i64 0, .int .i64 0, .slice none 0 0] HR2.out Try.infoMx rfl (by simp [Value.oneCell']) ?_; intro w5 hb5 hg5)
      | fail)
    refine bodyPost_ret (results_mx_tmp Try.results25 _ _ _ 26 #[.int .i64 0, .int .i64 0, .int .i64 0, .slice none 0 0] _ rfl hb5 Try.underlying26 rfl Try.infoMx) rfl ?_
    exact FreshMxB.zero (HB.out.trans (HB2.out.mono HB.out.size)) (by have := HG.out; omega) hg5
  | true =>
    rw [hu] at HM1
    cases hv : matB p' r' c' ys with
    | false =>
      rw [hv] at HM2
      obtain rfl : ok = false := by rw [hz.1]; unfold mulB; simp [hv]
      obtain ⟨rfl, rfl, rfl, rfl⟩ := hz.2.2 rfl
      clear hz hu hv
      go_enter Try.func25, Try.ntmps25
      go_upto_region 1 with fail
      rw [← HW.out, ← HG.out]
      go_wp2_with (first
        | (refine wpList_load_rowP rfl 26 (.tmp 2) rfl g rfl 26 #[.int .i64 p, .int .i64 r, .int .i64 c, .slice A n k] _ HK0.out Try.underlying26 rfl Try.infoMx ?_)
        | (go_at_call 64
           with_reducible refine (HM1.out).mono ?_
           rintro e w2 ⟨rfl, hb2⟩
           have HB2 := Lib.hid hb2
           have HR2 := Lib.hid (HK2.out.below hb2 HK2.out.lt)
           obtain ⟨r0, r1, r2, r3⟩ := cells4 (HK1.out.below hb2 HK1.out.lt)
           clear hb2)
        | (go_at_call 64
           with_reducible refine (HM2.out _ HB2.out).mono ?_
           rintro e w3 ⟨rfl, hb3⟩
           have HB3 : Hid (Below w1.heap.size w1 w3) := Lib.hid (HB2.out.trans (hb3.mono HB2.out.size))
           have HR3 := Lib.hid (HK2.out.below HB3.out HK2.out.lt)
           obtain ⟨q0, q1, q2, q3⟩ := cells4 (HK0.out.below HB3.out HK0.out.lt)
           clear r0 r1 r2 r3
           obtain ⟨r0, r1, r2, r3⟩ := cells4 (HK1.out.below HB3.out HK1.out.lt)
           clear hb3)
        | (refine wpList_store_rowP rfl 26 (.tmp 4) (.tmp 32) rfl (g + 2) #[.int .i64 0, .int .i64 0, .int .i64 0, .slice none 0 0] rfl rfl 26 #[.int .i64 0, .int .i64 0, .int .i64 0, .slice none 0 0] HR3.out Try.infoMx rfl (by simp [Value.oneCell']) ?_; intro w5 hb5 hg5)
        | fail)
      refine bodyPost_ret (results_mx_tmp Try.results25 _ _ _ 26 #[.int .i64 0, .int .i64 0, .int .i64 0, .slice none 0 0] _ rfl hb5 Try.underlying26 rfl Try.infoMx) rfl ?_
      exact FreshMxB.zero (HB.out.trans (HB3.out.mono HB.out.size)) (by have := HG.out; omega) hg5
    | true =>
      rw [hv] at HM2
      by_cases hp : p = p'
      case neg =>
        obtain rfl : ok = false := by rw [hz.1]; unfold mulB; simp [hp]
        obtain ⟨rfl, rfl, rfl, rfl⟩ := hz.2.2 rfl
        clear hz hu hv
        go_enter Try.func25, Try.ntmps25
        go_upto_region 1 with fail
        rw [← HW.out, ← HG.out]
        go_wp2_with (first
          | (refine wpList_load_rowP rfl 26 (.tmp 2) rfl g rfl 26 #[.int .i64 p, .int .i64 r, .int .i64 c, .slice A n k] _ HK0.out Try.underlying26 rfl Try.infoMx ?_)
          | (go_at_call 64
             with_reducible refine (HM1.out).mono ?_
             rintro e w2 ⟨rfl, hb2⟩
             have HB2 := Lib.hid hb2
             have HR2 := Lib.hid (HK2.out.below hb2 HK2.out.lt)
             obtain ⟨r0, r1, r2, r3⟩ := cells4 (HK1.out.below hb2 HK1.out.lt)
             clear hb2)
          | (go_at_call 64
             with_reducible refine (HM2.out _ HB2.out).mono ?_
             rintro e w3 ⟨rfl, hb3⟩
             have HB3 : Hid (Below w1.heap.size w1 w3) := Lib.hid (HB2.out.trans (hb3.mono HB2.out.size))
             have HR3 := Lib.hid (HK2.out.below HB3.out HK2.out.lt)
             obtain ⟨q0, q1, q2, q3⟩ := cells4 (HK0.out.below HB3.out HK0.out.lt)
             clear r0 r1 r2 r3
             obtain ⟨r0, r1, r2, r3⟩ := cells4 (HK1.out.below HB3.out HK1.out.lt)
             clear hb3)
          | (refine wpList_store_rowP rfl 26 (.tmp 4) (.tmp 32) rfl (g + 2) #[.int .i64 0, .int .i64 0, .int .i64 0, .slice none 0 0] rfl rfl 26 #[.int .i64 0, .int .i64 0, .int .i64 0, .slice none 0 0] HR3.out Try.infoMx rfl (by simp [Value.oneCell']) ?_; intro w5 hb5 hg5)
          | fail)
        refine bodyPost_ret (results_mx_tmp Try.results25 _ _ _ 26 #[.int .i64 0, .int .i64 0, .int .i64 0, .slice none 0 0] _ rfl hb5 Try.underlying26 rfl Try.infoMx) rfl ?_
        exact FreshMxB.zero (HB.out.trans (HB3.out.mono HB.out.size)) (by have := HG.out; omega) hg5
      case pos =>
        subst hp
        by_cases hc : c = r'
        case neg =>
          obtain rfl : ok = false := by rw [hz.1]; unfold mulB; simp [hc]
          obtain ⟨rfl, rfl, rfl, rfl⟩ := hz.2.2 rfl
          clear hz hu hv
          go_enter Try.func25, Try.ntmps25
          go_upto_region 1 with fail
          rw [← HW.out, ← HG.out]
          go_wp2_with (first
            | (refine wpList_load_rowP rfl 26 (.tmp 2) rfl g rfl 26 #[.int .i64 p, .int .i64 r, .int .i64 c, .slice A n k] _ HK0.out Try.underlying26 rfl Try.infoMx ?_)
            | (go_at_call 64
               with_reducible refine (HM1.out).mono ?_
               rintro e w2 ⟨rfl, hb2⟩
               have HB2 := Lib.hid hb2
               have HR2 := Lib.hid (HK2.out.below hb2 HK2.out.lt)
               obtain ⟨r0, r1, r2, r3⟩ := cells4 (HK1.out.below hb2 HK1.out.lt)
               clear hb2)
            | (go_at_call 64
               with_reducible refine (HM2.out _ HB2.out).mono ?_
               rintro e w3 ⟨rfl, hb3⟩
               have HB3 : Hid (Below w1.heap.size w1 w3) := Lib.hid (HB2.out.trans (hb3.mono HB2.out.size))
               have HR3 := Lib.hid (HK2.out.below HB3.out HK2.out.lt)
               obtain ⟨q0, q1, q2, q3⟩ := cells4 (HK0.out.below HB3.out HK0.out.lt)
               clear r0 r1 r2 r3
               obtain ⟨r0, r1, r2, r3⟩ := cells4 (HK1.out.below HB3.out HK1.out.lt)
               clear hb3)
            | (refine wpList_store_rowP rfl 26 (.tmp 4) (.tmp 32) rfl (g + 2) #[.int .i64 0, .int .i64 0, .int .i64 0, .slice none 0 0] rfl rfl 26 #[.int .i64 0, .int .i64 0, .int .i64 0, .slice none 0 0] HR3.out Try.infoMx rfl (by simp [Value.oneCell']) ?_; intro w5 hb5 hg5)
            | fail)
          refine bodyPost_ret (results_mx_tmp Try.results25 _ _ _ 26 #[.int .i64 0, .int .i64 0, .int .i64 0, .slice none 0 0] _ rfl hb5 Try.underlying26 rfl Try.infoMx) rfl ?_
          exact FreshMxB.zero (HB.out.trans (HB3.out.mono HB.out.size)) (by have := HG.out; omega) hg5
        case pos =>
          subst hc
          obtain rfl : ok = true := by rw [hz.1]; unfold mulB; simp [hu, hv]
          obtain ⟨rfl, rfl, rfl, hzd⟩ := hz.2.1 rfl
          have hyes := hz.1.symm
          clear hz hu hv
          obtain ⟨R, K, C, rfl, rfl, _, _, rfl, hp7, hR7, hK1, hK7, hC1, hC7, hxl, hyl, hxr, hyr⟩ := mulB_yes hyes
          clear hyes
          simp only [Int.toNat_natCast] at hzd
          have HZD := Lib.hid hzd
          have HXR := Lib.hid hxr
          have HYR := Lib.hid hyr
          have HXY := Lib.hid (And.intro hxl hyl)
          have HP7 := Lib.hid hp7
          have hp2 := hp7.two
          have hp9 := hp7.le
          have hpnz : zp ≠ 0 := by omega
          obtain ⟨N, hN⟩ : ∃ N, N = R * C := ⟨_, rfl⟩
          have hN49 : N ≤ 196 := by have := nat_mul_small (r := R) (c := C) (by omega) (by omega); omega
          have HN := Lib.hid hN
          have HSA' := Lib.hid (fun u (hb' : Below w1.heap.size w1 u) => HSA.out.below hb' (Nat.le_refl _))
          have HSB' := Lib.hid (fun u (hb' : Below w1.heap.size w1 u) => HSB.out.below hb' (Nat.le_refl _))
          have HGB : Hid (∀ b o, A' = some ⟨b, o, none⟩ → b < w1.heap.size) := Lib.hid (fun b o e => by obtain ⟨b', o', e', hlt, _⟩ := HSB.out.2 (by have h1 := HL2.out; have h2 : 1 * 1 ≤ K * C := Nat.mul_le_mul hK1 hC1; omega); rw [e] at e'; injection e' with e'; injection e' with e1 e2; omega)
          clear hzd hxl hyl hxr hyr hp7 hN
          go_enter Try.func25, Try.ntmps25
          go_upto_region 1 with fail
          rw [← HW.out, ← HG.out]
          go_upto_region 3 with (first
            | (refine wpList_load_rowP rfl 26 (.tmp 2) rfl g rfl 26 #[.int .i64 zp, .int .i64 R, .int .i64 K, .slice A n k] _ HK0.out Try.underlying26 rfl Try.infoMx ?_)
            | (go_at_call 64
               with_reducible refine (HM1.out).mono ?_
               rintro e w2 ⟨rfl, hb2⟩
               have HB2 := Lib.hid hb2
               have HR2 := Lib.hid (HK2.out.below hb2 HK2.out.lt)
               obtain ⟨r0, r1, r2, r3⟩ := cells4 (HK1.out.below hb2 HK1.out.lt)
               clear hb2)
            | (go_at_call 64
               with_reducible refine (HM2.out _ HB2.out).mono ?_
               rintro e w3 ⟨rfl, hb3⟩
               have HB3 : Hid (Below w1.heap.size w1 w3) := Lib.hid (HB2.out.trans (hb3.mono HB2.out.size))
               have HR3 := Lib.hid (HK2.out.below HB3.out HK2.out.lt)
               obtain ⟨q0, q1, q2, q3⟩ := cells4 (HK0.out.below HB3.out HK0.out.lt)
               clear r0 r1 r2 r3
               obtain ⟨r0, r1, r2, r3⟩ := cells4 (HK1.out.below HB3.out HK1.out.lt)
               clear hb3)
            | fail)
          have HZM := Lib.hid (zeroMatrix_any zp R C w3 (by omega) (by omega))
          go_upto_region 4 with (first
            | (go_at_call 65
               with_reducible refine (HZM.out).mono ?_
               rintro e w4 ⟨A4, N4, kd, rfl, ho4, hb4⟩
               obtain rfl : N4 = N := by have := ho4.len; have := HN.out; simp at *; omega
               have HO4 := Lib.hid ho4
               have HB4 := Lib.hid hb4
               clear ho4 hb4)
            | (refine wpList_store_rowP rfl 26 (.tmp 6) (.tmp 39) rfl w4.heap.size #[.int .i64 zp, .int .i64 R, .int .i64 C, .slice A4 N4 kd] rfl rfl 26 #[.int .i64 0, .int .i64 0, .int .i64 0, .slice none 0 0] (Blk.new _ _ _) Try.infoMx rfl (by simp [Value.oneCell']) ?_; intro w5 hb5 hg5)
            | fail)
          obtain ⟨s2, lo, hi, hs2, HBX⟩ : ∃ s2 lo hi, w4.heap.size = s2 ∧ Hid (BoxedM w3 w5 s2 lo hi A4 N4 kd zp R C (List.replicate (R * C) 0)) := ⟨_, _, _, rfl, Lib.hid (BoxedM.of_call HO4.out HB4.out hb5 hg5)⟩
          rw [hs2]
          obtain ⟨N, rfl⟩ : ∃ m, m = N4 := ⟨_, rfl⟩
          clear hs2 hb5 hg5 HO4 HB4 q0 q1 q2 q3 r0 r1 r2 r3 HZM
          clear HB2 HR2 HM1 HM2
          have HB5 : Hid (Below w1.heap.size w1 w5) := Lib.hid (HB3.out.trans (HBX.out.2.2.2.2.2.2.mono HB3.out.size))
          obtain ⟨q0, q1, q2, q3⟩ := cells4 (HK0.out.below HB5.out HK0.out.lt)
          obtain ⟨r0, r1, r2, r3⟩ := cells4 (HK1.out.below HB5.out HK1.out.lt)
          go_wp2_with fail
          clear q0 q1 q2 q3 r0 r1 r2 r3
          go_loopw [42] (fun iv wr => ∃ (i : Nat) (d : List Int), i ≤ R ∧ iv = .int .i64 i ∧ BoxedM w3 wr s2 lo hi A4 N kd zp R C d ∧ DM d R C (mulK zp xs ys K C i 0) ∧ Rg zp d)
            (fun iv _ => R - (intOf iv).toNat)
          case atStart => exact ⟨0, _, Nat.zero_le _, rfl, HBX.out, zeros_dm (mulK_zero _ _ _ _ _), fun j => by simp [nth, List.getD_eq_getElem?_getD, List.getElem?_replicate]; split <;> simp <;> omega⟩
          case round =>
            obtain ⟨i, d, hiR, rfl, hbx, hdm, hrg⟩ := hrel
            clear HBX HB5
            have HBX := Lib.hid hbx
            have HDM := Lib.hid hdm
            have HRG := Lib.hid hrg
            have HBR : Hid (Below w1.heap.size w1 wr) := Lib.hid (HB3.out.trans (hbx.2.2.2.2.2.2.mono HB3.out.size))
            clear hbx hdm hrg
            obtain ⟨q0, q1, q2, q3⟩ := cells4 (HK0.out.below HBR.out HK0.out.lt)
            obtain ⟨r0, r1, r2, r3⟩ := cells4 (HK1.out.below HBR.out HK1.out.lt)
            by_cases hlt : i < R
            case neg =>
              obtain rfl : i = R := by omega
              go_wp2_with (first
                | (refine wpList_load_rowP rfl 26 (.tmp 6) rfl s2 rfl 26 #[.int .i64 zp, .int .i64 i, .int .i64 C, .slice A4 N kd] _ HBX.out.2.1 Try.underlying26 rfl Try.infoMx ?_)
                | (refine wpList_store_rowP rfl 26 (.tmp 4) (.tmp 66) rfl (g + 2) #[.int .i64 zp, .int .i64 i, .int .i64 C, .slice A4 N kd] rfl rfl 26 #[.int .i64 0, .int .i64 0, .int .i64 0, .slice none 0 0] (HK2.out.below HBR.out HK2.out.lt) Try.infoMx rfl (by simp [Value.oneCell']) ?_; intro w5 hb5 hg5)
                | fail)
              refine bodyPost_ret (results_mx_tmp Try.results25 _ _ _ 26 #[.int .i64 zp, .int .i64 i, .int .i64 C, .slice A4 N kd] _ rfl hb5 Try.underlying26 rfl Try.infoMx) rfl ?_
              obtain rfl : d = z := DM.uniq (HDM.out.congr fun i c hi _ => mulK_end hi) HZD.out (by omega)
              have l1 := HSZ.out
              have l2 := HG.out
              have l3 := hg5.size
              have l4 := HB.out.size
              have l5 := HBX.out.2.2.1
              have l6 := HBX.out.2.2.2.1
              have l7 := HB3.out.size
              have l8 := HBR.out.size
              refine ⟨A4, N, kd, rfl, ?_, ?_⟩
              · exact (HBX.out.1.grown hg5 (fun q hq => by injection hq with hq; omega)).wide (by omega) (by omega)
              · exact (HB.out.trans (HBR.out.mono l4)).grown hg5 (by omega) (by rintro q ⟨⟩; omega)
            case pos =>
              have hlI : (i : Int) < (R : Int) := by omega
              have hikR : (i + 1) * K ≤ R * K := Nat.mul_le_mul (by omega) (Nat.le_refl _)
              have hicR : (i + 1) * C ≤ N := by rw [HN.out]; exact Nat.mul_le_mul (by omega) (Nat.le_refl _)
              obtain ⟨bA, oA, rfl, hbA, hcA⟩ := (HSA'.out wr HBR.out).at_ (by have h1 := HL1.out; have h2 := HXY.out.1; have h3 : 1 * 1 ≤ (i + 1) * K := Nat.mul_le_mul (by omega) hK1; omega)
              have HCA := Lib.hid hcA
              have HRA := Lib.hid (fun u => matRow_any zp (R : Int) bA oA n k K i u (by omega) (by omega) (by have h1 := HL1.out; have h2 := HXY.out.1; omega) hnk (by omega) (by omega))
              obtain ⟨oi, hoi⟩ : ∃ oi, oi = oA + i * K := ⟨_, rfl⟩
              have HOI := Lib.hid hoi
              rw [← hoi] at HRA
              clear hoi hcA hbA
              go_upto_region 8 with (first
                | (refine wpList_load_rowP rfl 26 (.tmp 2) rfl g rfl 26 #[.int .i64 zp, .int .i64 R, .int .i64 K, .slice (some ⟨bA, oA, none⟩) n k] _ (HK0.out.below HBR.out HK0.out.lt) Try.underlying26 rfl Try.infoMx ?_)
                | (go_at_call 66
                   with_reducible refine ((HRA.out _)).mono ?_
                   rintro e w6 ⟨rfl, hb6⟩
                   have HBX6 := Lib.hid (HBX.out.below hb6)
                   clear hb6)
                | fail)
              obtain ⟨wo, rfl⟩ : ∃ wo, wo = wr := ⟨wr, rfl⟩
              clear q0 q1 q2 q3 r0 r1 r2 r3
              go_loopw [49] (fun kv wr => ∃ (q : Nat) (d1 : List Int), q ≤ K ∧ kv = .int .i64 q ∧ BoxedM w3 wr s2 lo hi A4 N kd zp R C d1 ∧ DM d1 R C (mulK zp xs ys K C i q) ∧ Rg zp d1)
                (fun kv _ => K - (intOf kv).toNat)
              case atStart => exact ⟨0, d, Nat.zero_le _, rfl, HBX6.out, HDM.out, HRG.out⟩
              case round =>
                obtain ⟨q, d1, hq, rfl, hbx, hdm, hrg⟩ := hrel
                have HBX7 := Lib.hid hbx
                have HDM7 := Lib.hid hdm
                have HRG7 := Lib.hid hrg
                have HB7 : Hid (Below w1.heap.size w1 wr) := Lib.hid (HB3.out.trans (hbx.2.2.2.2.2.2.mono HB3.out.size))
                clear hbx hdm hrg
                by_cases hqK : q < K
                case neg =>
                  obtain rfl : q = K := by omega
                  go_wp2
                  go_roundw
                  case rel => exact ⟨i + 1, d1, by omega, by go_num, HBX7.out, HDM7.out.congr fun i' c _ _ => mulK_row zp xs ys q C i i' c, HRG7.out⟩
                  case measure => simp [intOf]; omega
                case pos =>
                  have hqI : (q : Int) < (K : Int) := by omega
                  obtain ⟨x, hx⟩ : ∃ x, x = nth xs (i * K + q) := ⟨_, rfl⟩
                  have hxb := HXR.out (i * K + q)
                  rw [← hx] at hxb
                  have HX := Lib.hid hx
                  have hcx : wr.cell? ⟨bA, oi + q, none⟩ = some (.int .i64 x) := by rw [hx, HOI.out, Nat.add_assoc]; obtain ⟨b', o', e', _, hc'⟩ := (HSA'.out wr HB7.out).at_ (by have h1 := HL1.out; have h2 := HXY.out.1; have h3 := idx_lt hlt hqK; omega); injection e' with e'; injection e' with e1 e2; subst e1 e2; exact hc' _ (by have h1 := HL1.out; have h2 := HXY.out.1; have h3 := idx_lt hlt hqK; omega)
                  obtain ⟨bB, oB, hB, _, _⟩ := (HSB'.out wr HB7.out).at_ (by have h1 := HL2.out; have h2 := HXY.out.2; have h3 : 1 * 1 ≤ K * C := Nat.mul_le_mul hK1 hC1; omega)
                  have hgbB := HGB.out bB oB hB
                  subst hB
                  obtain ⟨gd, hA4, hgd1, hgd2⟩ := HBX7.out.1.place (by have h3 : 1 * 1 ≤ (i + 1) * C := Nat.mul_le_mul (by omega) hC1; omega)
                  subst hA4
                  have hqC : (q + 1) * C ≤ n' := by have h1 := HL2.out; have h2 := HXY.out.2; have h3 : (q + 1) * C ≤ K * C := Nat.mul_le_mul (by omega) (Nat.le_refl _); omega
                  have HRP := Lib.hid (fun u => matRow_any zp (R : Int) gd 0 N kd C i u (by omega) (by omega) hicR HBX7.out.1.cap (by omega) (by omega))
                  have HRB := Lib.hid (fun u => matRow_any zp (K : Int) bB oB n' k' C q u (by omega) (by omega) hqC hnk' (by have h1 := HL2.out; have h2 := HXY.out.2; have := nat_mul_small (r := K) (c := C) (by omega) (by omega); omega) (by omega))
                  have HADD := Lib.hid (fun u (hbu : Below wr.heap.size wr u) => rowTimes_any zp x gd N kd lo hi (0 + i * C) C (kd - i * C) d1 (rowC ys C C q) (some ⟨bB, oB + q * C, none⟩) (k' - q * C) u ⟨hp2, hp9⟩ ⟨hxb.1, by omega⟩ HRG7.out (rowC_rg (by omega) HYR.out C C q) (HBX7.out.below hbu).1 (by rw [Nat.add_mul, Nat.one_mul] at hicR; omega) (by omega) ((HSB'.out u (HB7.out.trans (hbu.mono HB7.out.size))).mid (by rw [Nat.add_mul, Nat.one_mul] at hqC; omega)) (.inl (fun b o' e => by injection e with e; injection e with e1 e2; have h5 := HBX7.out.2.2.1; have h6 := HB3.out.size; omega)))
                  have HSTEP : Hid (DM (addO zp d1 (0 + i * C) x (rowC ys C C q) C) R C (mulK zp xs ys K C i (q + 1)) ∧ Rg zp (addO zp d1 (0 + i * C) x (rowC ys C C q) C)) := Lib.hid ⟨by rw [Nat.zero_add, hx]; exact mulK_step HDM7.out hlt, addO_rg (by omega) HRG7.out _ _ _ _⟩
                  obtain ⟨o1, ho1⟩ : ∃ o1, o1 = 0 + i * C := ⟨_, rfl⟩
                  rw [← ho1] at HRP HADD HSTEP
                  obtain ⟨o2, ho2⟩ : ∃ o2, o2 = oB + q * C := ⟨_, rfl⟩
                  rw [← ho2] at HRB HADD
                  obtain ⟨k1, hk1⟩ : ∃ k1, k1 = kd - i * C := ⟨_, rfl⟩
                  rw [← hk1] at HRP HADD
                  obtain ⟨k2, hk2⟩ : ∃ k2, k2 = k' - q * C := ⟨_, rfl⟩
                  rw [← hk2] at HRB HADD
                  clear ho1 ho2 hk1 hk2 hx hqC hgbB hgd1 hgd2 hxb
                  have MKS : Hid (∀ u, Below w1.heap.size w1 u → ∀ dd, BoxedM w3 u s2 lo hi (some ⟨gd, 0, none⟩) N kd zp R C dd → (u.cell? ⟨g, 0, none⟩ = some (.int .i64 zp) ∧ u.cell? ⟨s2, 0, none⟩ = some (.int .i64 zp) ∧ u.cell? ⟨s2, 1, none⟩ = some (.int .i64 R) ∧ u.cell? ⟨s2, 2, none⟩ = some (.int .i64 C) ∧ u.cell? ⟨s2, 3, none⟩ = some (.slice (some ⟨gd, 0, none⟩) N kd) ∧ u.cell? ⟨g + 1, 0, none⟩ = some (.int .i64 zp) ∧ u.cell? ⟨g + 1, 1, none⟩ = some (.int .i64 K) ∧ u.cell? ⟨g + 1, 2, none⟩ = some (.int .i64 C) ∧ u.cell? ⟨g + 1, 3, none⟩ = some (.slice (some ⟨bB, oB, none⟩) n' k'))) := Lib.hid (fun u hb dd hx => by obtain ⟨a0, a1, a2, a3⟩ := cells4 (HK0.out.below hb HK0.out.lt); obtain ⟨b0, b1, b2, b3⟩ := cells4 (HK1.out.below hb HK1.out.lt); obtain ⟨c0, c1, c2, c3⟩ := cells4 hx.2.1; exact ⟨a0, c0, c1, c2, c3, b0, b1, b2, b3⟩)
                  have KS0 : wr.drew.cell? ⟨g, 0, none⟩ = some (.int .i64 zp) ∧ wr.drew.cell? ⟨s2, 0, none⟩ = some (.int .i64 zp) ∧ wr.drew.cell? ⟨s2, 1, none⟩ = some (.int .i64 R) ∧ wr.drew.cell? ⟨s2, 2, none⟩ = some (.int .i64 C) ∧ wr.drew.cell? ⟨s2, 3, none⟩ = some (.slice (some ⟨gd, 0, none⟩) N kd) ∧ wr.drew.cell? ⟨g + 1, 0, none⟩ = some (.int .i64 zp) ∧ wr.drew.cell? ⟨g + 1, 1, none⟩ = some (.int .i64 K) ∧ wr.drew.cell? ⟨g + 1, 2, none⟩ = some (.int .i64 C) ∧ wr.drew.cell? ⟨g + 1, 3, none⟩ = some (.slice (some ⟨bB, oB, none⟩) n' k') := MKS.out wr HB7.out _ HBX7.out
                  have KS1 : wr.cell? ⟨g, 0, none⟩ = some (.int .i64 zp) ∧ wr.cell? ⟨s2, 0, none⟩ = some (.int .i64 zp) ∧ wr.cell? ⟨s2, 1, none⟩ = some (.int .i64 R) ∧ wr.cell? ⟨s2, 2, none⟩ = some (.int .i64 C) ∧ wr.cell? ⟨s2, 3, none⟩ = some (.slice (some ⟨gd, 0, none⟩) N kd) ∧ wr.cell? ⟨g + 1, 0, none⟩ = some (.int .i64 zp) ∧ wr.cell? ⟨g + 1, 1, none⟩ = some (.int .i64 K) ∧ wr.cell? ⟨g + 1, 2, none⟩ = some (.int .i64 C) ∧ wr.cell? ⟨g + 1, 3, none⟩ = some (.slice (some ⟨bB, oB, none⟩) n' k') := MKS.out wr HB7.out _ HBX7.out
                  have HKS0 := Lib.hid KS0
                  have HKS1 := Lib.hid KS1
                  clear KS0 KS1
                  go_upto_region 10 with fail
                  go_region_held3 (fun u => u.cell? ⟨g, 0, none⟩ = some (.int .i64 zp) ∧ u.cell? ⟨s2, 0, none⟩ = some (.int .i64 zp) ∧ u.cell? ⟨s2, 1, none⟩ = some (.int .i64 R) ∧ u.cell? ⟨s2, 2, none⟩ = some (.int .i64 C) ∧ u.cell? ⟨s2, 3, none⟩ = some (.slice (some ⟨gd, 0, none⟩) N kd) ∧ u.cell? ⟨g + 1, 0, none⟩ = some (.int .i64 zp) ∧ u.cell? ⟨g + 1, 1, none⟩ = some (.int .i64 K) ∧ u.cell? ⟨g + 1, 2, none⟩ = some (.int .i64 C) ∧ u.cell? ⟨g + 1, 3, none⟩ = some (.slice (some ⟨bB, oB, none⟩) n' k'))
                    (first | with_reducible exact HKS0.out | with_reducible exact HKS1.out | with_reducible exact KA | with_reducible exact KB | with_reducible exact KC)
                    (first
                      | (go_at_call 67
                         with_reducible refine (HADD.out _ HBb.out).mono ?_
                         rintro e w9 ⟨rfl, ho9, wm, hd9, hg9⟩
                         have HBX9 : Hid (BoxedM w3 w9 s2 lo hi (some ⟨gd, 0, none⟩) N kd zp R C (addO zp d1 o1 x (rowC ys C C q) C)) := Lib.hid ((HBX7.out.below HBb.out).upd (hd9.below _) hg9 ho9)
                         have KC := MKS.out w9 (HB3.out.trans (HBX9.out.2.2.2.2.2.2.mono HB3.out.size)) _ HBX9.out
                         clear ho9 hd9 hg9)
                      | (go_at_call 66
                         with_reducible refine (HRP.out _).mono ?_
                         rintro e w7 ⟨rfl, hb7⟩
                         have HBa : Hid (Below wr.heap.size wr w7) := Lib.hid (((Below.refl _ _).drew).trans hb7)
                         have KA := MKS.out w7 (HB7.out.trans (HBa.out.mono HB7.out.size)) _ (HBX7.out.below HBa.out)
                         clear hb7)
                      | (go_at_call 66
                         with_reducible refine (HRB.out _).mono ?_
                         rintro e w8 ⟨rfl, hb8⟩
                         have HBb : Hid (Below wr.heap.size wr w8) := Lib.hid (HBa.out.trans (hb8.mono HBa.out.size))
                         have KB := MKS.out w8 (HB7.out.trans (HBb.out.mono HB7.out.size)) _ (HBX7.out.below HBb.out)
                         clear hb8))
                  go_wp2
                  go_roundw
                  case rel => exact ⟨q + 1, _, by omega, by go_num, HBX9.out, HSTEP.out.1, HSTEP.out.2⟩
                  case measure => simp [intOf]; omega

end Go.Proofs.Ytdepalpkcmfegaa

/-
  Flags: the model. No conditions.
-/





namespace Go.Proofs.Ytdepalpkcmfegaa
open Go.RowKit

theorem addR_app (p : Int) (E : List (List Int × Int)) (x : List Int) : ∃ t, addR p E x = E ++ t ∧ t.length ≤ 1 := by
  unfold addR
  split
  · exact ⟨[], by simp, by simp⟩
  · exact ⟨_, rfl, by simp⟩
theorem foldl_addR_app (p : Int) : ∀ (rows : List (List Int)) (E : List (List Int × Int)), ∃ t, rows.foldl (addR p) E = E ++ t ∧ t.length ≤ rows.length
  | [], E => ⟨[], by simp, by simp⟩
  | x :: rows, E => by
    obtain ⟨t, e, h⟩ := addR_app p E x
    obtain ⟨s, e2, h2⟩ := foldl_addR_app p rows (addR p E x)
    exact ⟨t ++ s, by rw [List.foldl_cons, e2, e, List.append_assoc], by simp; omega⟩
theorem echel_take {p : Int} {rows : List (List Int)} (h : (echel p rows).length = rows.length) {i : Nat} (hi : i ≤ rows.length) : echel p (rows.take i) = (echel p rows).take i := by
  obtain ⟨t, e, ht⟩ := foldl_addR_app p (rows.drop i) (echel p (rows.take i))
  have e1 : echel p rows = echel p (rows.take i) ++ t := by
    rw [← e]
    unfold echel
    rw [← List.foldl_append, List.take_append_drop]
  have h1 := rnkL_le p (rows.take i)
  unfold rnkL at h1
  have h2 : (rows.take i).length = i := by simp; omega
  have h3 : (rows.drop i).length = rows.length - i := by simp
  have h4 : (echel p (rows.take i)).length = i := by
    rw [e1, List.length_append] at h
    omega
  rw [e1, List.take_append_of_le_length (by omega), List.take_of_length_le (l := echel p (rows.take i)) (by omega)]
/-- Each row of a flag is kept: as what is left of it, scaled, at the column where that begins. -/
theorem flag_step {p : Int} {rows : List (List Int)} (h : (echel p rows).length = rows.length) {i : Nat} (hi : i < rows.length) :
    ldN (redE p ((echel p rows).take i) (li rows i)) ≠ (li rows i).length ∧ li ((echel p rows).map (·.1)) i = nrm p (redE p ((echel p rows).take i) (li rows i)) ∧ nth ((echel p rows).map (·.2)) i = (ldN (redE p ((echel p rows).take i) (li rows i)) : Int) := by
  have e : echel p (rows.take (i + 1)) = addR p (echel p (rows.take i)) (li rows i) := by
    rw [take_li' hi]; simp [echel, List.foldl_append]
  rw [echel_take h (by omega), echel_take h (by omega)] at e
  have hiE : i < (echel p rows).length := by omega
  unfold addR at e
  by_cases hl : ldN (redE p ((echel p rows).take i) (li rows i)) = (li rows i).length
  · rw [if_pos hl] at e
    have := congrArg List.length e
    simp at this
    omega
  · rw [if_neg hl, List.take_succ_eq_append_getElem hiE] at e
    have e2 := List.append_cancel_left e
    injection e2 with e3
    refine ⟨hl, ?_, ?_⟩
    · rw [li_get (by simpa using hiE)]; simp [e3]
    · rw [nth_get (by simpa using hiE)]; simp [e3]
theorem nrm_nth {p : Int} {r : List Int} {j : Nat} (h : j < r.length) : nth (nrm p r) j = nth r j * inv7 p (nth r (ldN r)) % p := by
  unfold nrm
  rw [addT_nth h, Int.sub_mul, Int.one_mul, Int.mul_comm (nth r j)]
  congr 1; omega
/-- A row scaled as far as a column. -/
def scL (p : Int) (r : List Int) (f : Int) (k : Nat) : List Int := (List.range r.length).map fun q => if q < k then nth r q * f % p else nth r q
theorem scL_len (p : Int) (r : List Int) (f : Int) (k : Nat) : (scL p r f k).length = r.length := by simp [scL]
theorem scL_nth {p : Int} {r : List Int} {f : Int} {k q : Nat} (h : q < r.length) : nth (scL p r f k) q = if q < k then nth r q * f % p else nth r q := nth_rangeMap _ h
theorem scL_zero (p : Int) (r : List Int) (f : Int) : scL p r f 0 = r := nth_ext (scL_len ..) fun j hj => by rw [scL_nth (by rwa [scL_len] at hj), if_neg (by omega)]
theorem scL_succ {p : Int} {r : List Int} {f : Int} {k : Nat} (h : k < r.length) : (scL p r f k).set k (nth r k * f % p) = scL p r f (k + 1) :=
  nth_ext (by rw [List.length_set, scL_len, scL_len]) fun j hj => by
    rw [List.length_set, scL_len] at hj
    rw [nth_set_at (by rw [scL_len]; exact h), scL_nth hj, scL_nth hj]
    by_cases e : j = k
    · subst e; rw [if_pos rfl, if_pos (by omega)]
    · rw [if_neg e]
      by_cases hlt : j < k
      · rw [if_pos hlt, if_pos (by omega)]
      · rw [if_neg hlt, if_neg (by omega)]
theorem scL_all {p : Int} {r : List Int} {f : Int} (hf : f = inv7 p (nth r (ldN r))) : scL p r f r.length = nrm p r :=
  nth_ext (by rw [scL_len, nrm_len]) fun j hj => by
    rw [scL_len] at hj
    rw [scL_nth hj, if_pos hj, nrm_nth hj, hf]
/-- The rows before i of a normal form, the others as they were; one row put in another's place. -/
def nfM (E : List (List Int × Int)) (xs : List Int) (n i : Nat) : Nat → Nat → Int := fun i' j => if i' < i then nth (li (E.map (·.1)) i') j else nth xs (i' * n + j)
def rwM (M : Nat → Nat → Int) (i : Nat) (x : List Int) : Nat → Nat → Int := fun i' j => if i' = i then nth x j else M i' j
theorem rwM_set {M : Nat → Nat → Int} {i j : Nat} {x : List Int} (hj : j < x.length) (v : Int) (i' c : Nat) : updM (rwM M i x) i j v i' c = rwM M i (x.set j v) i' c := by
  unfold updM rwM
  by_cases h : i' = i
  · subst h
    rw [if_pos rfl, if_pos rfl, nth_set_at hj]
    by_cases h2 : c = j
    · rw [if_pos ⟨rfl, h2⟩, if_pos h2]
    · rw [if_neg (fun hh => h2 hh.2), if_neg h2]
  · rw [if_neg (fun hh => h hh.1), if_neg h, if_neg h]
theorem rwM_start {E : List (List Int × Int)} {xs : List Int} {n i : Nat} (i' c : Nat) (hc : c < n) : nfM E xs n i i' c = rwM (nfM E xs n i) i (rowC xs n n i) i' c := by
  unfold rwM
  by_cases h : i' = i
  · subst h
    rw [if_pos rfl, rowC_nth hc]
    unfold nfM
    rw [if_neg (by omega)]
  · rw [if_neg h]
theorem rwM_end {E : List (List Int × Int)} {xs : List Int} {n i : Nat} (i' c : Nat) : rwM (nfM E xs n i) i (li (E.map (·.1)) i) i' c = nfM E xs n (i + 1) i' c := by
  unfold rwM nfM
  by_cases h : i' = i
  · subst h
    rw [if_pos rfl, if_pos (by omega)]
  · rw [if_neg h]
    by_cases h1 : i' < i
    · rw [if_pos h1, if_pos (by omega)]
    · rw [if_neg h1, if_neg (by omega)]
theorem nfM_flat {E : List (List Int × Int)} {xs : List Int} {n : Nat} (_hn : 0 < n) : DM (flatK n n (E.map (·.1)) n) n n (nfM E xs n n) := by
  refine ⟨flatK_len .., fun i c hi hc => ?_⟩
  obtain ⟨e1, e2⟩ := div_row (i := i) hc
  rw [flatK_nth (idx_lt hi hc), e1, e2, if_pos hi]
  unfold nfM
  rw [if_pos hi]
/-- Whether a matrix is a flag. -/
def flagB (p r c : Int) (xs : List Int) : Bool := matB p r c xs && (decide (r = c) && decide (rnkL p (rowsC xs c.toNat c.toNat c.toNat) = c.toNat))
theorem flagB_no1 {p r c : Int} {xs : List Int} (h : matB p r c xs = false) : flagB p r c xs = false := by simp [flagB, h]
theorem flagB_no2 {p r c : Int} {xs : List Int} (h : r ≠ c) : flagB p r c xs = false := by simp [flagB, h]
theorem flagB_rk {p r c : Int} {xs : List Int} (h : matB p r c xs = true) (e : r = c) : flagB p r c xs = decide (rnkL p (rowsC xs c.toNat c.toNat c.toNat) = c.toNat) := by subst e; simp [flagB, h]
theorem flagB_yes {p r c : Int} {xs : List Int} (h : flagB p r c xs = true) : ∃ C : Nat, r = (C : Int) ∧ c = (C : Int) ∧ P7 p ∧ 1 ≤ C ∧ C ≤ 7 ∧ xs.length = C * C ∧ Rg p xs ∧ (echel p (rowsC xs C C C)).length = C := by
  unfold flagB at h
  simp only [Bool.and_eq_true, decide_eq_true_eq] at h
  obtain ⟨h1, rfl, h3⟩ := h
  have hM := matB_P h1
  obtain ⟨R, C, rfl, e, hR7, hC1, hC7, hxl⟩ := hM.nats
  have eC : R = C := by omega
  subst eC
  simp only [Int.toNat_natCast] at h3
  exact ⟨R, rfl, rfl, hM.1, hC1, hC7, hxl, hM.rg, h3⟩
/-- The normal form's numbers, and its columns. -/
def nfX (p : Int) (C : Nat) (xs : List Int) : List Int := flatK C C ((echel p (rowsC xs C C C)).map (·.1)) C
def nfW (p : Int) (C : Nat) (xs : List Int) : List Int := (echel p (rowsC xs C C C)).map (·.2)
def NfIs (p r c : Int) (xs : List Int) (zp zr zc : Int) (z : List Int) (ok : Bool) : Prop :=
  ok = flagB p r c xs ∧ (ok = true → zp = p ∧ zr = r ∧ zc = c ∧ z = nfX p c.toNat xs) ∧ (ok = false → zp = 0 ∧ zr = 0 ∧ zc = 0 ∧ z = [])
theorem nf_ex (p r c : Int) (xs : List Int) : ∃ zp zr zc z ok, NfIs p r c xs zp zr zc z ok := by
  cases h : flagB p r c xs with
  | true => exact ⟨_, _, _, _, true, h.symm, fun _ => ⟨rfl, rfl, rfl, rfl⟩, fun h' => absurd h' (by decide)⟩
  | false => exact ⟨0, 0, 0, [], false, h.symm, fun h' => absurd h' (by decide), fun _ => ⟨rfl, rfl, rfl, rfl⟩⟩
theorem NfIs.len {p r c : Int} {xs : List Int} {zp zr zc : Int} {z : List Int} {ok : Bool} (h : NfIs p r c xs zp zr zc z ok) : z.length ≤ 1000 := by
  cases ok with
  | true =>
    obtain ⟨_, _, _, rfl⟩ := h.2.1 rfl
    obtain ⟨C, rfl, rfl, _, _, hC7, _⟩ := flagB_yes h.1.symm
    have := nat_mul_small (r := C) (c := C) (by omega) (by omega)
    simp only [nfX, flatK_len, Int.toNat_natCast]
    omega
  | false => obtain ⟨_, _, _, rfl⟩ := h.2.2 rfl; simp
def flgW (p r c : Int) (xs : List Int) : List Int := if flagB p r c xs = true then nfW p c.toNat xs else []
theorem flgW_len (p r c : Int) (xs : List Int) : (flgW p r c xs).length ≤ 1000 := by
  unfold flgW
  split
  · rename_i h
    obtain ⟨C, rfl, rfl, _, _, hC7, _, _, hl⟩ := flagB_yes h
    simp only [nfW, List.length_map, Int.toNat_natCast, hl]; omega
  · simp

end Go.Proofs.Ytdepalpkcmfegaa

/-
  The normal form of a flag, on the document's side. Conditions: the modulus is 2, 3, 5 or 7; sizes at most 14.
-/


namespace Go.Proofs.Ytdepalpkcmfegaa
open Go.RowKit

theorem DM.uniqF {d z : List Int} {R C : Nat} {N : Nat → Nat → Int} (h : DM d R C N) (h' : DM z R C N) (hC : 0 < C) : d = z := by
  refine nth_ext (by rw [h.1, h'.1]) fun q hq => ?_
  rw [h.1] at hq
  have hi : q / C < R := Nat.div_lt_of_lt_mul (by rw [Nat.mul_comm]; exact hq)
  have hj := Nat.mod_lt q hC
  have e : q / C * C + q % C = q := by rw [Nat.mul_comm]; exact Nat.div_add_mod q C
  have h1 := h.2 _ _ hi hj
  have h2 := h'.2 _ _ hi hj
  rw [e] at h1 h2
  rw [h1, h2]
set_option maxRecDepth 100000 in
set_option maxHeartbeats 16000000 in
theorem l7Normal_any (p : Int) (C : Nat) (A : Option Addr) (n k : Nat) (xs : List Int) (w : World) (hp : P7 p) (hs : SI w A n xs) (hC : C ≤ 14) (hC1 : 1 ≤ C) (hx : Rg p xs) (hl : xs.length = C * C) (hfull : (echel p (rowsC xs C C C)).length = C) :
    Calls Try.prog 70 #[.agg #[.int .i64 p, .int .i64 C, .int .i64 C, .slice A n k]] w fun e w' => ∃ A' k' Ap np cp, e = .returned (.tuple #[.agg #[.int .i64 p, .int .i64 C, .int .i64 C, .slice A' n k'], .slice Ap np cp]) ∧ Own w' w.heap.size w'.heap.size A' n k' (flatK C C ((echel p (rowsC xs C C C)).map (·.1)) C) ∧ Own w' w.heap.size w'.heap.size Ap np cp ((echel p (rowsC xs C C C)).map (·.2)) ∧ Below w.heap.size w w' := by
  have hd0 : DM xs C C (fun i c => nth xs (i * C + c)) := ⟨hl, fun _ _ _ _ => rfl⟩
  have hCC := nat_mul_small hC hC
  have HXR := Lib.hid hx
  have HFULL := Lib.hid hfull
  have HROK := Lib.hid (rowsC_ok (by have := hp.two; omega) hx C C C)
  have HEOK := Lib.hid (echel_ok hp (rowsC_ok (by have := hp.two; omega) hx C C C)).1
  obtain ⟨w1, hw1⟩ : ∃ w1, w1 = (w.alloc (.cells #[.int .i64 p, .int .i64 C, .int .i64 C, .slice A n k] 26)).alloc (.cells #[.int .i64 0, .int .i64 0, .int .i64 0, .slice none 0 0] 26) := ⟨_, rfl⟩
  obtain ⟨g, hg⟩ : ∃ g, g = w.heap.size := ⟨_, rfl⟩
  have hk : Blk w1 g 26 #[.int .i64 p, .int .i64 C, .int .i64 C, .slice A n k] := by rw [hw1, hg]; exact (Blk.new _ _ _).alloc _
  have hk2 : Blk w1 (g + 1) 26 #[.int .i64 0, .int .i64 0, .int .i64 0, .slice none 0 0] := by
    rw [hw1, hg]
    have := Blk.new (w.alloc (.cells #[.int .i64 p, .int .i64 C, .int .i64 C, .slice A n k] 26)) 26 #[.int .i64 0, .int .i64 0, .int .i64 0, .slice none 0 0]
    simpa using this
  have hb : Below w.heap.size w w1 := by rw [hw1]; go_grown
  have hn196 : n ≤ 196 := by have h1 := hs.1; have h2 := hd0.1; have h3 := nat_mul_small hC hC; omega
  have HCP := Lib.hid (l7Copy_any p (C : Int) (C : Int) A n k xs w1 (hs.below hb (Nat.le_refl _)) (by omega))
  have HNL : Hid (n = C * C) := Lib.hid (by have h1 := hs.1; have h2 := hd0.1; omega)
  have HB1 := Lib.hid hb
  have HW := Lib.hid hw1
  have HG := Lib.hid hg
  have HK := Lib.hid hk
  have HK2 := Lib.hid hk2
  have HSZ : Hid (w1.heap.size = g + 1 + 1) := Lib.hid (by rw [hw1, hg]; simp)
  have HP := Lib.hid hp
  have HD0 := Lib.hid hd0
  have hp2 := hp.two
  have hp7 := hp.le
  have hpnz : p ≠ 0 := by omega
  clear hw1 hg hk hk2 hb hs hp hx hd0
  go_enter Try.func70, Try.ntmps70
  go_upto_region 1 with fail
  rw [← HW.out, ← HG.out]
  go_upto_region 2 with (first
    | (refine wpList_load_rowP rfl 26 (.tmp 1) rfl g rfl 26 #[.int .i64 p, .int .i64 C, .int .i64 C, .slice A n k] _ HK.out Try.underlying26 rfl Try.infoMx ?_)
    | (go_at_call 115
       with_reducible refine HCP.out.mono ?_
       rintro e w2 ⟨A4, n4, kd, rfl, ho2, hb2⟩
       obtain rfl : n4 = n := by have := ho2.len; have := HD0.out.1; have := HNL.out; omega
       have HO2 := Lib.hid ho2
       have HB2 := Lib.hid hb2
       clear ho2 hb2)
    | (refine wpList_store_rowP rfl 26 (.tmp 4) (.tmp 15) rfl w2.heap.size #[.int .i64 p, .int .i64 C, .int .i64 C, .slice A4 n4 kd] rfl rfl 26 #[.int .i64 0, .int .i64 0, .int .i64 0, .slice none 0 0] (Blk.new _ _ _) Try.infoMx rfl (by simp [Value.oneCell']) ?_
       intro w3 hb3 hg3
       have HK3 := Lib.hid hb3
       have HG3 := Lib.hid hg3
       clear hb3 hg3)
    | fail)
  obtain ⟨s1, hs1⟩ : ∃ s1, s1 = w1.heap.size := ⟨_, rfl⟩
  obtain ⟨s2, hs2⟩ : ∃ s2, s2 = w2.heap.size := ⟨_, rfl⟩
  rw [← hs1] at HB2
  rw [← hs1, ← hs2] at HO2
  rw [← hs2] at HK3 HG3 ⊢
  obtain ⟨n, rfl⟩ : ∃ m, m = n4 := ⟨_, rfl⟩
  have HRS : Hid (RS w w3 g s1 s2 p C C A A4 n k kd xs none 0 0 []) := Lib.hid (by
    have h0 := HSZ.out
    have h1 := HB2.out.size
    have hba : Below s2 w2 (w2.alloc (.cells #[.int .i64 0, .int .i64 0, .int .i64 0, .slice none 0 0] 26)) := (Below.refl s2 w2).alloc (Nat.le_of_eq hs2) _
    have hb3 : Below s2 w2 w3 := hba.grown HG3.out (by simp; omega) (by rintro q ⟨⟩; exact Nat.le_refl _)
    have h3 : s2 < w3.heap.size := HK3.out.lt
    exact ⟨(HK.out.below HB2.out (by rw [hs1]; exact HK.out.lt)).below hb3 (by omega), (HK2.out.below HB2.out (by rw [hs1]; exact HK2.out.lt)).below hb3 (by omega), HK3.out, HO2.out.below hb3 (Nat.le_refl _), Own.nil _ _ _, by omega, by
      have := HB1.out
      rw [← HG.out] at this
      exact (this.trans (HB2.out.mono (by omega))).trans (hb3.mono (by omega))⟩)
  clear hs1 hs2 HK HK2 HK3 HG3 HO2 HB2
  have hne3 : Below w3.heap.size w3 (w3.alloc (.cells #[] 3)) := Below.alloc_self _ _
  have HRS4 : Hid (RS w (w3.alloc (.cells #[] 3)) g s1 s2 p C C A A4 n k kd xs (some ⟨w3.heap.size, 0, none⟩) 0 0 []) := Lib.hid (by
    have h5 := HRS.out.below hne3
    exact ⟨h5.b1, h5.b2, h5.b4, h5.od, (Own.empty w3).wide (by have := HRS.out.ord; omega) (by simp), h5.ord, h5.be⟩)
  clear hne3
  obtain ⟨q0, q1, q2, q3, q4, q5, q6⟩ := HRS.out.s7
  go_wp2_with fail
  clear q0 q1 q2 q3 q4 q5 q6
  go_loopw [6, 7] (fun fv iv wr => ∃ (i : Nat) (d : List Int) (Ap : Option Addr) (np cp : Nat), i ≤ C ∧ iv = .int .i64 i ∧ fv = .slice Ap np cp ∧ RS w wr g s1 s2 p C C A A4 n k kd d Ap np cp (((echel p (rowsC xs C C C)).map (·.2)).take i) ∧ DM d C C (nfM (echel p (rowsC xs C C C)) xs C i))
    (fun _ iv _ => C - (intOf iv).toNat)
  case atStart => exact ⟨0, xs, _, 0, 0, Nat.zero_le _, rfl, rfl, HRS4.out, HD0.out.congr fun i c _ _ => by simp [nfM]⟩
  case round =>
    obtain ⟨i, d, Ap, np, cp, hiC, rfl, rfl, hrs, hdm⟩ := hrel
    clear HRS4 HRS
    have HRS := Lib.hid hrs
    have HDM := Lib.hid hdm
    clear hrs hdm
    have hnpi : np = i := by have h1 := HRS.out.op.len; simp only [List.length_take, List.length_map, HFULL.out] at h1; omega
    subst hnpi
    obtain ⟨q0, q1, q2, q3, q4, q5, q6⟩ := HRS.out.s7
    by_cases hlt : np < C
    case neg =>
      obtain rfl : np = C := by omega
      go_wp2_with (first
        | (refine wpList_load_rowP rfl 26 (.tmp 4) rfl s2 rfl 26 #[.int .i64 p, .int .i64 np, .int .i64 np, .slice A4 n kd] _ HRS.out.b4 Try.underlying26 rfl Try.infoMx ?_)
        | (refine wpList_store_rowP rfl 26 (.tmp 2) (.tmp 106) rfl (g + 1) #[.int .i64 p, .int .i64 np, .int .i64 np, .slice A4 n kd] rfl rfl 26 #[.int .i64 0, .int .i64 0, .int .i64 0, .slice none 0 0] HRS.out.b2 Try.infoMx rfl (by simp [Value.oneCell']) ?_; intro w5 hb5 hg5)
        | fail)
      refine bodyPost_ret (results_mx_tmp Try.results70 _ _ _ 26 #[.int .i64 p, .int .i64 np, .int .i64 np, .slice A4 n kd] _ rfl hb5 Try.underlying26 rfl Try.infoMx) rfl ?_
      have l1 := HRS.out.ord
      have l2 := HG.out
      have l3 := hg5.size
      obtain rfl : d = flatK np np ((echel p (rowsC xs np np np)).map (·.1)) np := DM.uniqF HDM.out (nfM_flat (by omega)) (by omega)
      have hop := HRS.out.op
      rw [List.take_of_length_le (by rw [List.length_map, HFULL.out]; exact Nat.le_refl _)] at hop
      refine ⟨A4, kd, Ap, np, cp, rfl, ?_, ?_, ?_⟩
      · exact (HRS.out.od.grown hg5 (fun q hq => by injection hq with hq; omega)).wide (by omega) (by omega)
      · exact (hop.grown hg5 (fun q hq => by injection hq with hq; omega)).wide (by omega) (by omega)
      · have := HRS.out.be.grown hg5 (by omega) (by rintro q ⟨⟩; omega)
        rw [l2] at this; exact this
    case pos =>
      have hlI : (np : Int) < (C : Int) := by omega
      obtain ⟨x, hx⟩ : ∃ x, x = rowC xs C C np := ⟨_, rfl⟩
      have hxl : x.length = C := by rw [hx, rowC_len]
      have hxr : Rg p x := by rw [hx]; exact rowC_rg (by omega) HXR.out C C np
      have hst := flag_step (p := p) (rows := rowsC xs C C C) (by rw [rowsC_len]; exact HFULL.out) (i := np) (by rw [rowsC_len]; exact hlt)
      rw [rowsC_li hlt, ← hx] at hst
      obtain ⟨E, hE⟩ : ∃ E, E = (echel p (rowsC xs C C C)) := ⟨_, rfl⟩
      rw [← hE] at hst
      have HE := Lib.hid hE
      have HEL : Hid (E.length = C) := Lib.hid (by rw [hE]; exact HFULL.out)
      have HXL := Lib.hid hxl
      have HXRg := Lib.hid hxr
      have HSTP := Lib.hid hst
      have HEOK2 : Hid (EOk p C E) := Lib.hid (by rw [hE]; exact HEOK.out)
      have HDM2 : Hid (DM d C C (rwM (nfM E xs C np) np x)) := Lib.hid (by rw [hE, hx]; exact HDM.out.congr fun i c _ hc => rwM_start i c hc)
      rw [← hE] at HRS ⊢
      clear hx hst hxl hxr hE HDM
      go_wp2_with fail
      clear q0 q1 q2 q3 q4 q5 q6
      obtain ⟨wo, rfl⟩ : ∃ wo, wo = wr := ⟨wr, rfl⟩
      obtain ⟨i, rfl⟩ : ∃ i, i = np := ⟨_, rfl⟩
      go_loopw [8] (fun kv wr => ∃ (q : Nat) (d1 : List Int), q ≤ i ∧ kv = .int .i64 q ∧ RS w wr g s1 s2 p C C A A4 n k kd d1 Ap i cp ((E.map (·.2)).take i) ∧ DM d1 C C (rwM (nfM E xs C i) i (redE p (E.take q) x)))
        (fun kv _ => i - (intOf kv).toNat)
      case atStart => exact ⟨0, d, Nat.zero_le _, rfl, HRS.out, HDM2.out⟩
      case round =>
        obtain ⟨q, d1, hqi, rfl, hrs, hdm⟩ := hrel
        clear HRS HDM2
        have HRS1 := Lib.hid hrs
        have HDM1 := Lib.hid hdm
        clear hrs hdm
        obtain ⟨y, hy⟩ : ∃ y, y = redE p (E.take q) x := ⟨_, rfl⟩
        have HY := Lib.hid hy
        have HYL : Hid (y.length = C) := Lib.hid (by rw [hy, redE_len]; exact HXL.out)
        have HYR : Hid (Rg p y) := Lib.hid (by rw [hy]; exact redE_rg (by omega) _ HXRg.out)
        rw [← hy] at HDM1
        clear hy
        obtain ⟨q0, q1, q2, q3, q4, q5, q6⟩ := HRS1.out.s7
        by_cases hqlt : q < i
        case neg =>
          obtain rfl : q = i := by omega
          obtain ⟨i, rfl⟩ : ∃ i, i = q := ⟨_, rfl⟩
          have HSTP2 : Hid (ldN y ≠ C ∧ li (E.map (·.1)) i = nrm p y ∧ nth (E.map (·.2)) i = (ldN y : Int)) := Lib.hid (by rw [HY.out, ← HXL.out]; exact HSTP.out)
          have hld : ldN y < C := by have h1 := ldN_le y; have h2 := HSTP2.out.1; have h3 := HYL.out; omega
          go_wp2_with fail
          clear q0 q1 q2 q3 q4 q5 q6
          obtain ⟨wo, rfl⟩ : ∃ wo, wo = wr := ⟨wr, rfl⟩
          go_loopw [11] (fun av wr => ∃ a : Nat, a ≤ ldN y ∧ av = .int .i64 a ∧ RS w wr g s1 s2 p C C A A4 n k kd d1 Ap i cp ((E.map (·.2)).take i))
            (fun av _ => C - (intOf av).toNat)
          case atStart => exact ⟨0, Nat.zero_le _, rfl, HRS1.out⟩
          case round =>
            obtain ⟨a, hal, rfl, hrs⟩ := hrel
            clear HRS1
            have HRS1 := Lib.hid hrs
            clear hrs
            obtain ⟨q0, q1, q2, q3, q4, q5, q6⟩ := HRS1.out.s7
            have haC : a < C := by omega
            obtain ⟨v, hv⟩ : ∃ v, v = nth y a := ⟨_, rfl⟩
            have HAT := Lib.hid (HRS1.out.at_ HDM1.out hC hC hlt haC v (by rw [hv]; simp [rwM]) wr (Below.refl _ _))
            have HV := Lib.hid hv
            have hvr := HYR.out a
            rw [← hv] at hvr
            clear hv
            by_cases hv0 : v = 0
            case pos =>
              subst hv0
              go_wp2_with (first
                | (go_at_call 63
                   with_reducible refine (HAT.out).mono ?_
                   rintro e w4 ⟨rfl, hb4⟩
                   have HRS4 := Lib.hid (HRS1.out.below hb4)
                   clear hb4)
                | fail)
              go_roundw
              case rel => exact ⟨a + 1, by have h1 : a ≠ ldN y := fun e => ldN_at y (by have := HYL.out; omega) (by rw [← e]; exact HV.out.symm); omega, by go_num, HRS4.out⟩
              case measure => simp [intOf]; omega
            case neg =>
              have HAL2 : Hid (a = ldN y) := Lib.hid (by rcases Nat.lt_or_ge a (ldN y) with h | h; exact absurd (by rw [HV.out]; exact ldN_before y a h) hv0; omega)
              have hvb : (v == 0) = false := by simpa using hv0
              have HIV := Lib.hid (fun w' => l7Inverse_any p v w' HP.out (show 0 < v ∧ v < p by omega))
              have hivr := inv7_ok HP.out (show 0 < v ∧ v < p by omega)
              obtain ⟨fi, hfi⟩ : ∃ fi, fi = inv7 p v := ⟨_, rfl⟩
              rw [← hfi] at hivr HIV
              have HFI : Hid (fi = inv7 p (nth y (ldN y))) := Lib.hid (by rw [hfi, HV.out, HAL2.out])
              have HFR : Hid (0 < fi ∧ fi < p) := Lib.hid ⟨hivr.1, hivr.2.1⟩
              clear hivr hfi
              have HATS := Lib.hid (fun u (hb : Below wr.heap.size wr u) => HRS1.out.at_ HDM1.out hC hC hlt haC v (by rw [HV.out]; simp [rwM]) u hb)
              go_upto_region 18 with (first
                | (go_at_call 63
                   with_reducible refine (HAT.out).mono ?_
                   rintro e w4 ⟨rfl, hb4⟩
                   have HRS4 := Lib.hid (HRS1.out.below hb4)
                   have HBB4 := Lib.hid hb4
                   clear hb4)
                | fail)
              clear q0 q1 q2 q3 q4 q5 q6 hvb HAT
              have HQ := Lib.hid HRS4.out.s7
              have hqd : w4.drew.cell? ⟨g, 0, none⟩ = some (.int .i64 p) ∧ w4.drew.cell? ⟨g, 1, none⟩ = some (.int .i64 C) ∧ w4.drew.cell? ⟨g, 2, none⟩ = some (.int .i64 C) ∧ w4.drew.cell? ⟨s2, 0, none⟩ = some (.int .i64 p) ∧ w4.drew.cell? ⟨s2, 1, none⟩ = some (.int .i64 C) ∧ w4.drew.cell? ⟨s2, 2, none⟩ = some (.int .i64 C) ∧ w4.drew.cell? ⟨s2, 3, none⟩ = some (.slice A4 n kd) := HRS4.out.s7
              have HQD := Lib.hid hqd
              clear hqd
              go_region_held3 (fun u => u.cell? ⟨g, 0, none⟩ = some (.int .i64 p) ∧ u.cell? ⟨g, 1, none⟩ = some (.int .i64 C) ∧ u.cell? ⟨g, 2, none⟩ = some (.int .i64 C) ∧ u.cell? ⟨s2, 0, none⟩ = some (.int .i64 p) ∧ u.cell? ⟨s2, 1, none⟩ = some (.int .i64 C) ∧ u.cell? ⟨s2, 2, none⟩ = some (.int .i64 C) ∧ u.cell? ⟨s2, 3, none⟩ = some (.slice A4 n kd))
                (first | with_reducible exact HQD.out | with_reducible exact HQ.out | with_reducible exact K4 | with_reducible exact K5)
                (first
                  | (go_at_call 63
                     with_reducible refine (HATS.out _ (HBB4.out.drew)).mono ?_
                     rintro e w5 ⟨rfl, hb5⟩
                     have HRS5 := Lib.hid (HRS4.out.below (((Below.refl _ _).drew).trans hb5))
                     have K4 : w5.cell? ⟨g, 0, none⟩ = some (.int .i64 p) ∧ w5.cell? ⟨g, 1, none⟩ = some (.int .i64 C) ∧ w5.cell? ⟨g, 2, none⟩ = some (.int .i64 C) ∧ w5.cell? ⟨s2, 0, none⟩ = some (.int .i64 p) ∧ w5.cell? ⟨s2, 1, none⟩ = some (.int .i64 C) ∧ w5.cell? ⟨s2, 2, none⟩ = some (.int .i64 C) ∧ w5.cell? ⟨s2, 3, none⟩ = some (.slice A4 n kd) := HRS5.out.s7
                     clear hb5)
                  | (go_at_call 116
                     with_reducible refine (HIV.out _).mono ?_
                     rintro e w6 ⟨rfl, hd6⟩
                     have HRS6 := Lib.hid (HRS5.out.below (hd6.below _))
                     have K5 : w6.cell? ⟨g, 0, none⟩ = some (.int .i64 p) ∧ w6.cell? ⟨g, 1, none⟩ = some (.int .i64 C) ∧ w6.cell? ⟨g, 2, none⟩ = some (.int .i64 C) ∧ w6.cell? ⟨s2, 0, none⟩ = some (.int .i64 p) ∧ w6.cell? ⟨s2, 1, none⟩ = some (.int .i64 C) ∧ w6.cell? ⟨s2, 2, none⟩ = some (.int .i64 C) ∧ w6.cell? ⟨s2, 3, none⟩ = some (.slice A4 n kd) := HRS6.out.s7
                     clear hd6))
              clear HQ HQD K4 K5 HATS
              obtain ⟨q0, q1, q2, q3, q4, q5, q6⟩ := HRS6.out.s7
              go_wp2_with fail
              clear q0 q1 q2 q3 q4 q5 q6
              obtain ⟨wo, rfl⟩ : ∃ wo, wo = wr := ⟨wr, rfl⟩
              go_loopw [13] (fun jv wr => ∃ (j : Nat) (d2 : List Int), j ≤ C ∧ jv = .int .i64 j ∧ RS w wr g s1 s2 p C C A A4 n k kd d2 Ap i cp ((E.map (·.2)).take i) ∧ DM d2 C C (rwM (nfM E xs C i) i (scL p y fi j)))
                (fun jv _ => C - (intOf jv).toNat)
              case atStart => exact ⟨0, d1, Nat.zero_le _, rfl, HRS6.out, by rw [scL_zero]; exact HDM1.out⟩
              case round =>
                obtain ⟨j, d2, hj, rfl, hrs, hdm⟩ := hrel
                clear HRS6 HRS5 HRS4
                have HRS2 := Lib.hid hrs
                have HDM2 := Lib.hid hdm
                clear hrs hdm
                obtain ⟨q0, q1, q2, q3, q4, q5, q6⟩ := HRS2.out.s7
                by_cases hjC : j < C
                case neg =>
                  obtain rfl : j = C := by omega
                  have HDM3 : Hid (DM d2 j j (nfM E xs j (i + 1))) := Lib.hid (by have h := HDM2.out; rw [show scL p y fi j = li (E.map (·.1)) i by rw [HSTP2.out.2.1, ← scL_all HFI.out, HYL.out]] at h; exact h.congr fun i c _ _ => rwM_end i c)
                  have hnn : i < (E.map (·.2)).length := by rw [List.length_map, HEL.out]; exact hlt
                  have HPS : Hid ((E.map (·.2)).take (i + 1) = (E.map (·.2)).take i ++ [(a : Int)]) := Lib.hid (by rw [take_nth hnn, HSTP2.out.2.2, HAL2.out])
                  have hapn : i ≤ 1099511627776 := by omega
                  have hsz2 : s2 + 1 ≤ wr.heap.size := by have := HRS2.out.ord; omega
                  go_wp2_with (first
                    | (refine wpList_append1 rfl (.tmp 102) (.tmp 104) rfl (s2 + 1) Ap i cp ((E.map (·.2)).take i) (a : Int) rfl rfl HRS2.out.op hsz2 hapn ?_; intro A' c' w7 ho7 hg7 hb7; have HRS7 := Lib.hid (HRS2.out.app hg7 rfl ho7); clear ho7 hg7 hb7)
                    | fail)
                  go_roundw
                  case rel => exact ⟨i + 1, d2, _, _, _, by omega, by go_num, rfl, by rw [HPS.out]; exact HRS7.out, HDM3.out⟩
                  case measure => simp [intOf]; omega
                case pos =>
                  have hjI : (j : Int) < (C : Int) := by omega
                  obtain ⟨gd, rfl, _, _⟩ := HRS2.out.od.place (by rw [HNL.out]; have := idx_lt hlt hjC; omega)
                  obtain ⟨Nb, m2, hb1, hb2, hm2⟩ := idx_wraps (i := i) (C := C) (q := j) (by omega) hC (by omega)
                  have hm2n : m2 < n := by rw [hm2, HNL.out]; exact idx_lt hlt hjC
                  have hm2I : (m2 : Int) < (n : Int) := by omega
                  obtain ⟨a1, ha1⟩ : ∃ a1, a1 = nth y j := ⟨_, rfl⟩
                  have HATA := Lib.hid (HRS2.out.at_ HDM2.out hC hC hlt hjC a1 (by simp only [rwM, if_pos]; rw [scL_nth (by rw [HYL.out]; exact hjC), if_neg (by omega), ha1]) wr.drew ((Below.refl _ _).drew))
                  have har := HYR.out j
                  rw [← ha1] at har
                  have hfr := HFR.out
                  have hX0 : 0 ≤ a1 * fi := Int.mul_nonneg har.1 (by omega)
                  have hX1 : a1 * fi ≤ 7 * 7 := Int.mul_le_mul (by omega) (by omega) (by omega) (by decide)
                  obtain ⟨X, hX⟩ : ∃ X, X = a1 * fi := ⟨_, rfl⟩
                  rw [← hX] at hX0 hX1
                  have hwX : IntKind.i64.wrap (a1 * fi) = X := by rw [← hX]; exact IntWalk.i64_in _ (by omega)
                  obtain ⟨V, hV⟩ : ∃ V, V = X % p := ⟨_, rfl⟩
                  have hwV : X.tmod p = V := by rw [hV]; exact Int.tmod_eq_emod_of_nonneg hX0
                  have hVb : 0 ≤ V ∧ V < p := by rw [hV]; exact ⟨Int.emod_nonneg _ hpnz, Int.emod_lt_of_pos _ (by omega)⟩
                  have hwZ : IntKind.i64.wrap V = V := IntWalk.i64_in _ (by omega)
                  have HFIN : Hid (DM (d2.set m2 V) C C (rwM (nfM E xs C i) i (scL p y fi (j + 1)))) := Lib.hid (by rw [hm2, ← scL_succ (by rw [HYL.out]; exact hjC), ← ha1, ← hX, ← hV]; exact (HDM2.out.set hlt hjC V).congr fun i c _ _ => rwM_set (by rw [scL_len, HYL.out]; exact hjC) V i c)
                  clear ha1 har hfr hX0 hX1 hX hV hVb hm2
                  go_upto_region 22 with fail
                  clear q0 q1 q2 q3 q4 q5 q6
                  have HQ := Lib.hid HRS2.out.s7
                  have hqd : wr.drew.cell? ⟨g, 0, none⟩ = some (.int .i64 p) ∧ wr.drew.cell? ⟨g, 1, none⟩ = some (.int .i64 C) ∧ wr.drew.cell? ⟨g, 2, none⟩ = some (.int .i64 C) ∧ wr.drew.cell? ⟨s2, 0, none⟩ = some (.int .i64 p) ∧ wr.drew.cell? ⟨s2, 1, none⟩ = some (.int .i64 C) ∧ wr.drew.cell? ⟨s2, 2, none⟩ = some (.int .i64 C) ∧ wr.drew.cell? ⟨s2, 3, none⟩ = some (.slice (some ⟨gd, 0, none⟩) n kd) := HRS2.out.s7
                  have HQD := Lib.hid hqd
                  clear hqd
                  go_region_held3 (fun u => u.cell? ⟨g, 0, none⟩ = some (.int .i64 p) ∧ u.cell? ⟨g, 1, none⟩ = some (.int .i64 C) ∧ u.cell? ⟨g, 2, none⟩ = some (.int .i64 C) ∧ u.cell? ⟨s2, 0, none⟩ = some (.int .i64 p) ∧ u.cell? ⟨s2, 1, none⟩ = some (.int .i64 C) ∧ u.cell? ⟨s2, 2, none⟩ = some (.int .i64 C) ∧ u.cell? ⟨s2, 3, none⟩ = some (.slice (some ⟨gd, 0, none⟩) n kd))
                    (first | with_reducible exact HQD.out | with_reducible exact HQ.out | with_reducible exact K4 | with_reducible exact KZ | exact KZ)
                    (first
                      | (go_at_call 63
                         with_reducible refine HATA.out.mono ?_
                         rintro e w6 ⟨rfl, hb6⟩
                         have HRS6 := Lib.hid (HRS2.out.below (((Below.refl _ _).drew).trans hb6))
                         have K4 : w6.cell? ⟨g, 0, none⟩ = some (.int .i64 p) ∧ w6.cell? ⟨g, 1, none⟩ = some (.int .i64 C) ∧ w6.cell? ⟨g, 2, none⟩ = some (.int .i64 C) ∧ w6.cell? ⟨s2, 0, none⟩ = some (.int .i64 p) ∧ w6.cell? ⟨s2, 1, none⟩ = some (.int .i64 C) ∧ w6.cell? ⟨s2, 2, none⟩ = some (.int .i64 C) ∧ w6.cell? ⟨s2, 3, none⟩ = some (.slice (some ⟨gd, 0, none⟩) n kd) := HRS6.out.s7
                         have KZ : (w6.setCell ⟨gd, m2, none⟩ (.int .i64 V)).cell? ⟨g, 0, none⟩ = some (.int .i64 p) ∧ (w6.setCell ⟨gd, m2, none⟩ (.int .i64 V)).cell? ⟨g, 1, none⟩ = some (.int .i64 C) ∧ (w6.setCell ⟨gd, m2, none⟩ (.int .i64 V)).cell? ⟨g, 2, none⟩ = some (.int .i64 C) ∧ (w6.setCell ⟨gd, m2, none⟩ (.int .i64 V)).cell? ⟨s2, 0, none⟩ = some (.int .i64 p) ∧ (w6.setCell ⟨gd, m2, none⟩ (.int .i64 V)).cell? ⟨s2, 1, none⟩ = some (.int .i64 C) ∧ (w6.setCell ⟨gd, m2, none⟩ (.int .i64 V)).cell? ⟨s2, 2, none⟩ = some (.int .i64 C) ∧ (w6.setCell ⟨gd, m2, none⟩ (.int .i64 V)).cell? ⟨s2, 3, none⟩ = some (.slice (some ⟨gd, 0, none⟩) n kd) := (HRS6.out.put m2 V).s7
                         obtain ⟨cc, ff⟩ := HRS6.out.mcell hm2n
                         clear hb6))
                  clear HQ HQD K4 KZ cc ff
                  go_wp2_with fail
                  go_roundw
                  case rel => exact ⟨j + 1, d2.set m2 V, by omega, by go_num, HRS6.out.put m2 V, HFIN.out⟩
                  case measure => simp [intOf]; omega
        case pos =>
          have hqI : (q : Int) < (i : Int) := by omega
          have hqE : q < E.length := by rw [HEL.out]; omega
          obtain ⟨gd, rfl, _, _⟩ := HRS1.out.od.place (by rw [HNL.out]; have := idx_lt hlt hlt; omega)
          obtain ⟨ap, rfl, _, _⟩ := HRS1.out.op.place (by omega)
          have hce := HRS1.out.op.cellAt hqlt
          rw [nth_take hqlt] at hce
          have hrow := HEOK2.out.1 E[q] (List.getElem_mem hqE)
          have hec : nth (E.map (·.2)) q = E[q].2 := by rw [nth_get (by simpa using hqE)]; simp
          obtain ⟨cN, hcN⟩ : ∃ cN : Nat, (cN : Int) = nth (E.map (·.2)) q := ⟨(nth (E.map (·.2)) q).toNat, by rw [hec]; omega⟩
          have hcC : cN < C := by rw [← hec, ← hcN] at hrow; omega
          rw [← hcN] at hce
          have hcc : wr.drew.cell? ⟨ap, q, none⟩ = some (.int .i64 cN) := hce
          have her : li (E.map (·.1)) q = E[q].1 := by rw [li_get (by simpa using hqE)]; simp
          obtain ⟨zr, hzr⟩ : ∃ zr, zr = li (E.map (·.1)) q := ⟨_, rfl⟩
          have HZL : Hid (zr.length = C ∧ Rg p zr) := Lib.hid (by rw [hzr, her]; exact ⟨hrow.1, hrow.2.1⟩)
          obtain ⟨cv, hcv⟩ : ∃ cv, cv = nth y cN := ⟨_, rfl⟩
          have HCV : Hid (0 ≤ cv ∧ cv < p) := Lib.hid (by rw [hcv]; exact HYR.out _)
          have HNX : Hid (redE p (E.take (q + 1)) x = addT p y (p - cv) zr) := Lib.hid (by rw [redE_take hqE, ← HY.out, ← hcN, hcv, hzr, Int.toNat_natCast])
          have HZR : Hid (∀ j, nfM E xs C i q j = nth zr j) := Lib.hid (fun j => by rw [hzr]; unfold nfM; rw [if_pos hqlt])
          have HATC := Lib.hid (HRS1.out.at_ HDM1.out hC hC hlt hcC cv (by rw [hcv]; simp [rwM]) wr.drew ((Below.refl _ _).drew))
          clear hrow hec hcN her hzr hcv
          go_upto_region 10 with fail
          clear q0 q1 q2 q3 q4 q5 q6
          have HQ : Hid ((wr.cell? ⟨g, 0, none⟩ = some (.int .i64 p) ∧ wr.cell? ⟨g, 1, none⟩ = some (.int .i64 C) ∧ wr.cell? ⟨g, 2, none⟩ = some (.int .i64 C) ∧ wr.cell? ⟨s2, 0, none⟩ = some (.int .i64 p) ∧ wr.cell? ⟨s2, 1, none⟩ = some (.int .i64 C) ∧ wr.cell? ⟨s2, 2, none⟩ = some (.int .i64 C) ∧ wr.cell? ⟨s2, 3, none⟩ = some (.slice (some ⟨gd, 0, none⟩) n kd)) ∧ wr.cell? ⟨ap, q, none⟩ = some (.int .i64 cN)) := Lib.hid ⟨HRS1.out.s7, hce⟩
          have hqd : (wr.drew.cell? ⟨g, 0, none⟩ = some (.int .i64 p) ∧ wr.drew.cell? ⟨g, 1, none⟩ = some (.int .i64 C) ∧ wr.drew.cell? ⟨g, 2, none⟩ = some (.int .i64 C) ∧ wr.drew.cell? ⟨s2, 0, none⟩ = some (.int .i64 p) ∧ wr.drew.cell? ⟨s2, 1, none⟩ = some (.int .i64 C) ∧ wr.drew.cell? ⟨s2, 2, none⟩ = some (.int .i64 C) ∧ wr.drew.cell? ⟨s2, 3, none⟩ = some (.slice (some ⟨gd, 0, none⟩) n kd)) ∧ wr.drew.cell? ⟨ap, q, none⟩ = some (.int .i64 cN) := ⟨HRS1.out.s7, hce⟩
          have HQD := Lib.hid hqd
          clear hqd hce hcc
          go_region_held3 (fun u => (u.cell? ⟨g, 0, none⟩ = some (.int .i64 p) ∧ u.cell? ⟨g, 1, none⟩ = some (.int .i64 C) ∧ u.cell? ⟨g, 2, none⟩ = some (.int .i64 C) ∧ u.cell? ⟨s2, 0, none⟩ = some (.int .i64 p) ∧ u.cell? ⟨s2, 1, none⟩ = some (.int .i64 C) ∧ u.cell? ⟨s2, 2, none⟩ = some (.int .i64 C) ∧ u.cell? ⟨s2, 3, none⟩ = some (.slice (some ⟨gd, 0, none⟩) n kd)) ∧ u.cell? ⟨ap, q, none⟩ = some (.int .i64 cN))
            (first | with_reducible exact HQD.out | with_reducible exact HQ.out | with_reducible exact K4)
            (first
              | (go_at_call 63
                 with_reducible refine HATC.out.mono ?_
                 rintro e w4 ⟨rfl, hb4⟩
                 have HB4 : Hid (Below wr.heap.size wr w4) := Lib.hid (((Below.refl _ _).drew).trans hb4)
                 have HRS4 := Lib.hid (HRS1.out.below HB4.out)
                 have K4 : (w4.cell? ⟨g, 0, none⟩ = some (.int .i64 p) ∧ w4.cell? ⟨g, 1, none⟩ = some (.int .i64 C) ∧ w4.cell? ⟨g, 2, none⟩ = some (.int .i64 C) ∧ w4.cell? ⟨s2, 0, none⟩ = some (.int .i64 p) ∧ w4.cell? ⟨s2, 1, none⟩ = some (.int .i64 C) ∧ w4.cell? ⟨s2, 2, none⟩ = some (.int .i64 C) ∧ w4.cell? ⟨s2, 3, none⟩ = some (.slice (some ⟨gd, 0, none⟩) n kd)) ∧ w4.cell? ⟨ap, q, none⟩ = some (.int .i64 cN) := ⟨HRS4.out.s7, (HB4.out.cell (p := ⟨ap, q, none⟩) (by have := HRS1.out.op.lt ap rfl; show ap < wr.heap.size; omega)).trans HQ.out.2⟩
                 clear hb4))
          clear HQ HQD K4 HATC
          obtain ⟨q0, q1, q2, q3, q4, q5, q6⟩ := HRS4.out.s7
          go_wp2_with fail
          clear q0 q1 q2 q3 q4 q5 q6
          obtain ⟨wo, rfl⟩ : ∃ wo, wo = wr := ⟨wr, rfl⟩
          obtain ⟨fv, hfv⟩ : ∃ fv, fv = p - cv := ⟨_, rfl⟩
          have HFV := Lib.hid hfv
          have hfb : 0 < fv ∧ fv ≤ 7 := by have := HCV.out; omega
          have hwf : IntKind.i64.wrap (p - cv) = fv := by rw [← hfv]; exact IntWalk.i64_in _ (by omega)
          clear hfv
          go_loopw [10] (fun jv wr => ∃ (j : Nat) (d2 : List Int), j ≤ C ∧ jv = .int .i64 j ∧ RS w wr g s1 s2 p C C A (some ⟨gd, 0, none⟩) n k kd d2 (some ⟨ap, 0, none⟩) i cp ((E.map (·.2)).take i) ∧ DM d2 C C (rwM (nfM E xs C i) i (addK p y fv zr j)))
            (fun jv _ => C - (intOf jv).toNat)
          case atStart => exact ⟨0, d1, Nat.zero_le _, rfl, HRS4.out, by rw [addK_zero]; exact HDM1.out⟩
          case round =>
            obtain ⟨j, d2, hj, rfl, hrs, hdm⟩ := hrel
            clear HRS4
            have HRS2 := Lib.hid hrs
            have HDM2 := Lib.hid hdm
            clear hrs hdm
            obtain ⟨q0, q1, q2, q3, q4, q5, q6⟩ := HRS2.out.s7
            by_cases hjC : j < C
            case neg =>
              obtain rfl : j = C := by omega
              go_wp2
              go_roundw
              case rel => exact ⟨q + 1, d2, by omega, by go_num, HRS2.out, by rw [HNX.out, ← HFV.out]; have h := HDM2.out; rw [show addK p y fv zr j = addT p y fv zr by rw [← HYL.out]; exact addK_all ..] at h; exact h⟩
              case measure => simp [intOf]; omega
            case pos =>
              have hjI : (j : Int) < (C : Int) := by omega
              obtain ⟨Nb, m2, hb1, hb2, hm2⟩ := idx_wraps (i := i) (C := C) (q := j) (by omega) hC (by omega)
              have hm2n : m2 < n := by rw [hm2, HNL.out]; exact idx_lt hlt hjC
              have hm2I : (m2 : Int) < (n : Int) := by omega
              obtain ⟨a1, ha1⟩ : ∃ a1, a1 = nth y j := ⟨_, rfl⟩
              obtain ⟨b1, hb1'⟩ : ∃ b1, b1 = nth zr j := ⟨_, rfl⟩
              have hrj : nth (addK p y fv zr j) j = a1 := by rw [addK_nth (by rw [HYL.out]; exact hjC), if_neg (by omega), ha1]
              have HATA := Lib.hid (fun w' hb' => HRS2.out.at_ HDM2.out hC hC hlt hjC a1 (by simp only [rwM, if_pos]; exact hrj) w' hb')
              have HATB := Lib.hid (fun w' hb' => HRS2.out.at_ HDM2.out hC hC (show q < C by omega) hjC b1 (by unfold rwM; rw [if_neg (by omega), HZR.out, hb1']) w' hb')
              have har := HYR.out j
              have hbr := HZL.out.2 j
              rw [← ha1] at har
              rw [← hb1'] at hbr
              have hP0 : 0 ≤ fv * b1 := Int.mul_nonneg (by omega) hbr.1
              have hP1 : fv * b1 ≤ 7 * 7 := Int.mul_le_mul (by omega) (by omega) hbr.1 (by decide)
              obtain ⟨PB, hPB⟩ : ∃ PB, PB = fv * b1 := ⟨_, rfl⟩
              rw [← hPB] at hP0 hP1
              have hwP : IntKind.i64.wrap (fv * b1) = PB := by rw [← hPB]; exact IntWalk.i64_in _ (by omega)
              have hwS : IntKind.i64.wrap (a1 + PB) = a1 + PB := IntWalk.i64_in _ (by omega)
              obtain ⟨V, hV⟩ : ∃ V, V = (a1 + PB) % p := ⟨_, rfl⟩
              have hwV : (a1 + PB).tmod p = V := by rw [hV]; exact Int.tmod_eq_emod_of_nonneg (by omega)
              have hVb : 0 ≤ V ∧ V < p := by rw [hV]; exact ⟨Int.emod_nonneg _ hpnz, Int.emod_lt_of_pos _ (by omega)⟩
              have hwZ : IntKind.i64.wrap V = V := IntWalk.i64_in _ (by omega)
              have HFIN : Hid (DM (d2.set m2 V) C C (rwM (nfM E xs C i) i (addK p y fv zr (j + 1)))) := Lib.hid (by rw [hm2, ← addK_succ (by rw [HYL.out]; exact hjC), ← ha1, ← hb1', ← hPB, ← hV]; exact (HDM2.out.set hlt hjC V).congr fun i c _ _ => rwM_set (by rw [addK_len, HYL.out]; exact hjC) V i c)
              clear ha1 hb1' hrj har hbr hP0 hP1 hPB hV hVb hm2
              go_upto_region 14 with fail
              clear q0 q1 q2 q3 q4 q5 q6
              have HQ := Lib.hid HRS2.out.s7
              have hqd : wr.drew.cell? ⟨g, 0, none⟩ = some (.int .i64 p) ∧ wr.drew.cell? ⟨g, 1, none⟩ = some (.int .i64 C) ∧ wr.drew.cell? ⟨g, 2, none⟩ = some (.int .i64 C) ∧ wr.drew.cell? ⟨s2, 0, none⟩ = some (.int .i64 p) ∧ wr.drew.cell? ⟨s2, 1, none⟩ = some (.int .i64 C) ∧ wr.drew.cell? ⟨s2, 2, none⟩ = some (.int .i64 C) ∧ wr.drew.cell? ⟨s2, 3, none⟩ = some (.slice (some ⟨gd, 0, none⟩) n kd) := HRS2.out.s7
              have HQD := Lib.hid hqd
              clear hqd
              go_region_held3 (fun u => u.cell? ⟨g, 0, none⟩ = some (.int .i64 p) ∧ u.cell? ⟨g, 1, none⟩ = some (.int .i64 C) ∧ u.cell? ⟨g, 2, none⟩ = some (.int .i64 C) ∧ u.cell? ⟨s2, 0, none⟩ = some (.int .i64 p) ∧ u.cell? ⟨s2, 1, none⟩ = some (.int .i64 C) ∧ u.cell? ⟨s2, 2, none⟩ = some (.int .i64 C) ∧ u.cell? ⟨s2, 3, none⟩ = some (.slice (some ⟨gd, 0, none⟩) n kd))
                (first | with_reducible exact HQD.out | with_reducible exact HQ.out | with_reducible exact K4 | with_reducible exact K5 | with_reducible exact KZ | exact KZ)
                (first
                  | (go_at_call 63
                     with_reducible refine (HATA.out _ ((Below.refl _ _).drew)).mono ?_
                     rintro e w5 ⟨rfl, hb5⟩
                     have HB5 : Hid (Below wr.heap.size wr w5) := Lib.hid (((Below.refl _ _).drew).trans hb5)
                     have K4 : w5.cell? ⟨g, 0, none⟩ = some (.int .i64 p) ∧ w5.cell? ⟨g, 1, none⟩ = some (.int .i64 C) ∧ w5.cell? ⟨g, 2, none⟩ = some (.int .i64 C) ∧ w5.cell? ⟨s2, 0, none⟩ = some (.int .i64 p) ∧ w5.cell? ⟨s2, 1, none⟩ = some (.int .i64 C) ∧ w5.cell? ⟨s2, 2, none⟩ = some (.int .i64 C) ∧ w5.cell? ⟨s2, 3, none⟩ = some (.slice (some ⟨gd, 0, none⟩) n kd) := (HRS2.out.below HB5.out).s7
                     clear hb5)
                  | (go_at_call 63
                     with_reducible refine (HATB.out _ HB5.out).mono ?_
                     rintro e w6 ⟨rfl, hb6⟩
                     have HRS6 := Lib.hid (HRS2.out.below (HB5.out.trans (hb6.mono HB5.out.size)))
                     have K5 : w6.cell? ⟨g, 0, none⟩ = some (.int .i64 p) ∧ w6.cell? ⟨g, 1, none⟩ = some (.int .i64 C) ∧ w6.cell? ⟨g, 2, none⟩ = some (.int .i64 C) ∧ w6.cell? ⟨s2, 0, none⟩ = some (.int .i64 p) ∧ w6.cell? ⟨s2, 1, none⟩ = some (.int .i64 C) ∧ w6.cell? ⟨s2, 2, none⟩ = some (.int .i64 C) ∧ w6.cell? ⟨s2, 3, none⟩ = some (.slice (some ⟨gd, 0, none⟩) n kd) := HRS6.out.s7
                     have KZ : (w6.setCell ⟨gd, m2, none⟩ (.int .i64 V)).cell? ⟨g, 0, none⟩ = some (.int .i64 p) ∧ (w6.setCell ⟨gd, m2, none⟩ (.int .i64 V)).cell? ⟨g, 1, none⟩ = some (.int .i64 C) ∧ (w6.setCell ⟨gd, m2, none⟩ (.int .i64 V)).cell? ⟨g, 2, none⟩ = some (.int .i64 C) ∧ (w6.setCell ⟨gd, m2, none⟩ (.int .i64 V)).cell? ⟨s2, 0, none⟩ = some (.int .i64 p) ∧ (w6.setCell ⟨gd, m2, none⟩ (.int .i64 V)).cell? ⟨s2, 1, none⟩ = some (.int .i64 C) ∧ (w6.setCell ⟨gd, m2, none⟩ (.int .i64 V)).cell? ⟨s2, 2, none⟩ = some (.int .i64 C) ∧ (w6.setCell ⟨gd, m2, none⟩ (.int .i64 V)).cell? ⟨s2, 3, none⟩ = some (.slice (some ⟨gd, 0, none⟩) n kd) := (HRS6.out.put m2 V).s7
                     obtain ⟨cc, ff⟩ := HRS6.out.mcell hm2n
                     clear hb6))
              clear HQ HQD K4 K5 KZ cc ff
              go_wp2_with fail
              go_roundw
              case rel => exact ⟨j + 1, d2.set m2 V, by omega, by go_num, HRS6.out.put m2 V, HFIN.out⟩
              case measure => simp [intOf]; omega

end Go.Proofs.Ytdepalpkcmfegaa

/-
  Ranks on the document's side. Conditions: lengths below 2^40.
-/




namespace Go.Proofs.Ytdepalpkcmfegaa
open Go.RowKit

theorem rowsC_whole (d : List Int) (C R : Nat) : rowsC d C R C = rowsL d C R := rfl
set_option maxRecDepth 100000 in
set_option maxHeartbeats 2000000 in
theorem l7Rank_any (p : Int) (R C : Nat) (A : Option Addr) (n k : Nat) (xs : List Int) (rows : List (List Int)) (w : World) (hp : P7 p) (hs : SI w A n xs) (hR : R ≤ 14) (hC : C ≤ 14) (hx : Rg p xs) (hl : xs.length = R * C)
    (hr : rows.length = R) (hro : ∀ x, x ∈ rows → x.length = C ∧ Rg p x) (h0 : ∀ i c, i < R → c < C → nth (li rows i) c = nth xs (i * C + c)) :
    Calls Try.prog 68 #[.agg #[.int .i64 p, .int .i64 R, .int .i64 C, .slice A n k]] w fun e w' => e = .returned (.int .i64 (rnkL p rows)) ∧ Below w.heap.size w w' := by
  obtain ⟨w1, hw1⟩ : ∃ w1, w1 = w.alloc (.cells #[.int .i64 p, .int .i64 R, .int .i64 C, .slice A n k] 26) := ⟨_, rfl⟩
  obtain ⟨g, hg⟩ : ∃ g, g = w.heap.size := ⟨_, rfl⟩
  have hk : Blk w1 g 26 #[.int .i64 p, .int .i64 R, .int .i64 C, .slice A n k] := by rw [hw1, hg]; exact Blk.new _ _ _
  have hb : Below w.heap.size w w1 := by rw [hw1]; exact Below.alloc_self _ _
  have HB := Lib.hid hb
  have HW := Lib.hid hw1
  have HG := Lib.hid hg
  have HK := Lib.hid hk
  have HRED := Lib.hid (l7Reduce_any p R C A n k xs (fun i c => nth xs (i * C + c)) w1 hp (hs.below hb (Nat.le_refl _)) hR hC hx ⟨hl, fun i c _ _ => rfl⟩)
  have HRK := Lib.hid (fun (M : Nat → Nat → Int) (ps : List Int) (j : Nat) (h : RedI p C R (fun i c => nth xs (i * C + c)) M ps j) (hj : j ≤ C) (he : j = C ∨ ps.length = R) => rank_same hp hro hr h0 h hj he)
  clear hw1 hg hk hb hs hp hx hl hr hro h0
  go_enter Try.func68, Try.ntmps68
  go_upto_region 1 with fail
  rw [← HW.out, ← HG.out]
  go_wp2_with (first
    | (refine wpList_load_rowP rfl 26 (.tmp 1) rfl g rfl 26 #[.int .i64 p, .int .i64 R, .int .i64 C, .slice A n k] _ HK.out Try.underlying26 rfl Try.infoMx ?_)
    | (go_at_call 101
       with_reducible refine HRED.out.mono ?_
       rintro e w2 ⟨A2, k2, Ap, np, cp, rfl, hres⟩
       have HRES := Lib.hid hres
       clear hres)
    | (refine wpList_store_rowP rfl 26 (.tmp 3) (.tmp 8) rfl w2.heap.size #[.int .i64 p, .int .i64 R, .int .i64 C, .slice A2 n k2] rfl rfl 26 #[.int .i64 0, .int .i64 0, .int .i64 0, .slice none 0 0] (Blk.new _ _ _) Try.infoMx rfl (by simp [Value.oneCell']) ?_; intro w5 hb5 hg5; have HG5 := Lib.hid hg5; clear hb5 hg5)
    | fail)
  go_ret
  obtain ⟨d, M, ps, j, _, hop, _, hri, hj, he, hbel⟩ := HRES.out
  have h1 := HRK.out M ps j hri hj he
  have h2 := hop.len
  refine ⟨ret_int (by show ((np : Nat) : Int) = _; omega), ?_⟩
  have h3 := HB.out.trans (hbel.mono HB.out.size)
  have h4 := (h3.alloc (h3.size) (.cells #[.int .i64 0, .int .i64 0, .int .i64 0, .slice none 0 0] 26))
  exact h4.grown HG5.out (by have := h4.size; simpa using this) (by rintro q ⟨⟩; exact h3.size)
theorem Own.ne_blk {w : World} {lo hi n c g : Nat} {A : Option Addr} {xs : List Int} {t : TypeId} {cs : Array Value} (h : Own w lo hi A n c xs) (hb : Blk w g t cs) (ht : t ≠ 3) : (Value.slice A n c).ownBlock ≠ some g := fun e => by
  rcases h.1.2 with ⟨e1, _⟩ | ⟨g', cap, cur, e1, _, hg, _⟩
  · rw [e1] at e; simp [Value.ownBlock] at e
  · rw [e1] at e
    have e2 : g' = g := by simpa [Value.ownBlock] using e
    subst e2
    unfold Blk at hb
    rw [hb] at hg
    injection hg with hg
    injection hg with h1 h2 h3
    exact ht h2
/-- The numbers of the first rows of a corner, one row behind another. -/
def catC (xs : List Int) (C c : Nat) : Nat → List Int
  | 0 => []
  | i + 1 => catC xs C c i ++ rowC xs C c i
theorem catC_len (xs : List Int) (C c : Nat) : ∀ i, (catC xs C c i).length = i * c
  | 0 => by simp [catC]
  | i + 1 => by rw [catC, List.length_append, catC_len xs C c i, rowC_len, Nat.add_mul, Nat.one_mul]
theorem catC_nth (xs : List Int) (C c : Nat) : ∀ i j q, j < i → q < c → nth (catC xs C c i) (j * c + q) = nth xs (j * C + q)
  | i + 1, j, q, hj, hq => by
    unfold catC
    by_cases h : j < i
    · rw [← catC_nth xs C c i j q h hq, nth, nth, List.getD_eq_getElem?_getD, List.getD_eq_getElem?_getD, List.getElem?_append_left (by rw [catC_len]; exact idx_lt h hq)]
    · have e : j = i := by omega
      subst e
      rw [← rowC_nth (d := xs) (C := C) (i := j) hq, nth, nth, List.getD_eq_getElem?_getD, List.getD_eq_getElem?_getD, List.getElem?_append_right (by rw [catC_len]; omega), catC_len, show j * c + q - j * c = q by omega]
theorem catC_rg {p : Int} (hp : 0 < p) {xs : List Int} (h : Rg p xs) (C c i : Nat) : Rg p (catC xs C c i) := by
  induction i with
  | zero => intro j; rw [nth_past (by simp [catC])]; exact ⟨Int.le_refl _, hp⟩
  | succ i ih =>
    intro j
    unfold catC
    by_cases hj : j < (catC xs C c i).length
    · rw [nth, List.getD_eq_getElem?_getD, List.getElem?_append_left hj, ← List.getD_eq_getElem?_getD]; exact ih j
    · rw [nth, List.getD_eq_getElem?_getD, List.getElem?_append_right (by omega), ← List.getD_eq_getElem?_getD]; exact rowC_rg hp h C c i _
end Go.Proofs.Ytdepalpkcmfegaa
