/-
  Patterns, the document's side: a function that calls itself over what is chosen. Conditions: at most seven numbers each.
-/
import Derived.Test.YthpgahlfkmkigaaSpecF
import Derived.Deep.RegionHeld3
import Derived.Deep.AppendLies
namespace Go.Proofs.Ythpgahlfkmkigaa
open Go.RowKit

/-- Whether x goes on from the first t chosen ones as the pattern's next number does. -/
def fitN (ps ch : List Int) (x : Int) : Nat → Bool
  | 0 => true
  | t + 1 => fitN ps ch x t && (decide (nth ch t < x) == decide (nth ps t < nth ps ch.length))
/-- Whether the chosen ones can be gone on with, from place a. -/
def patB (ws ps : List Int) : Nat → List Int → Nat → Bool
  | 0, _, _ => false
  | f + 1, ch, a => decide (ch.length = ps.length) || (List.range ws.length).any fun i => decide (a ≤ i) && (fitN ps ch (nth ws i) ch.length && patB ws ps f (ch ++ [nth ws i]) (i + 1))
theorem patB_full {ws ps ch : List Int} {f a : Nat} (h : ch.length = ps.length) : patB ws ps (f + 1) ch a = true := by simp [patB, h]
theorem patB_hit {ws ps ch : List Int} {f a i : Nat} (h0 : a ≤ i) (h1 : i < ws.length) (h2 : fitN ps ch (nth ws i) ch.length = true) (h3 : patB ws ps f (ch ++ [nth ws i]) (i + 1) = true) : patB ws ps (f + 1) ch a = true := by
  have : ((List.range ws.length).any fun i => decide (a ≤ i) && (fitN ps ch (nth ws i) ch.length && patB ws ps f (ch ++ [nth ws i]) (i + 1))) = true := by
    rw [List.any_eq_true]
    exact ⟨i, List.mem_range.2 h1, by rw [decide_eq_true h0, h2, h3]; rfl⟩
  show (_ || _) = true
  rw [this, Bool.or_true]
theorem patB_miss {ws ps ch : List Int} {f a : Nat} (hn : ch.length ≠ ps.length) (h : ∀ i, a ≤ i → i < ws.length → (fitN ps ch (nth ws i) ch.length && patB ws ps f (ch ++ [nth ws i]) (i + 1)) = false) : patB ws ps (f + 1) ch a = false := by
  have : ((List.range ws.length).any fun i => decide (a ≤ i) && (fitN ps ch (nth ws i) ch.length && patB ws ps f (ch ++ [nth ws i]) (i + 1))) = false := by
    rw [List.any_eq_false]
    intro i hi
    have hi := List.mem_range.1 hi
    by_cases h0 : a ≤ i
    · rw [h i h0 hi]; simp
    · rw [decide_eq_false h0]; simp
  show (_ || _) = false
  rw [this, decide_eq_false hn]; rfl

/-- The kit's step_append_lies for an operation that is guarded and wanted. -/
theorem step_append_wanted {P : Program} (w : World) {ops : Array Oper} {o : Oper} {a : Act} {K : Act → World → Prop} {Q : Exit → Act → World → Prop} {E0 : Prop} (hw : Region.wanted o (yielded ops a.tmps) = true) (s x : Operand) (t : TypeId)
    (ho : o.op = .call { callee := .builtin .append, args := #[s, x], argTypes := #[t, t] })
    (base : Nat) (e : TypeId) (i : TypeInfo) (z : Value) (size bytes : Nat) (ht : P.underlying t = some (.slice e)) (hi : P.info? e = some i) (hz : i.zero = some z)
    (hsize : i.size = size) (hby : i.bytes = bytes) (hzs : z.cells.size = size) (hsz : 0 < size)
    (v : Value) (n : Nat) (xs : List Value) (hs : a.eval s = v) (hown : w.ownsRow base e size v n xs)
    (ad : Addr) (m c : Nat) (news : List Value) (hx : a.eval x = .slice (some ad) m c) (hl : news.length = m * size) (hnews : ∀ j u, news[j]? = some u → w.cell? (ad.add j) = some u) (h1 : ∀ u ∈ news, u.oneCell' = true)
    (hm : 0 < m) (h63 : n + m ≤ maxLen) (hbytes : (n + m) * bytes ≤ 140737488355328) (hbase : base ≤ w.heap.size) (H : Nat) (hH : w.heap.size = H)
    (h : ∀ g cap w', w'.ownsRow base e size (.slice (some ⟨g, 0, none⟩) (n + m) cap) (n + m) (xs ++ news) → w.grownBy w' v.ownBlock → (v.ownBlock = some g ∨ g = H) → g < w'.heap.size → K (a.put o.dst (.slice (some ⟨g, 0, none⟩) (n + m) cap)) w') :
    if Region.wanted o (yielded ops a.tmps) = true then Oper.wp P o a w K Q else E0 := by
  rw [if_pos hw]
  exact wp_append_lies w s x t ho base e i z size bytes ht hi hz hsize hby hzs hsz v n xs hs hown ad m c news hx hl hnews h1 hm h63 hbytes hbase H hH h

set_option maxRecDepth 100000 in
set_option maxHeartbeats 3200000 in
theorem l1Pattern_any (f : Nat) : ∀ (Aw Ap Ac : Option Addr) (n cw m cp k cc a : Nat) (ai : Int) (ws ps ch : List Int) (w : World), ai = (a : Int) → SI w Aw n ws → SI w Ap m ps → SI w Ac k ch → n ≤ 7 → m ≤ 7 → k ≤ m → m < f + k → a ≤ n →
    Calls Try.prog 69 #[.slice Aw n cw, .slice Ap m cp, .slice Ac k cc, .int .i64 ai] w fun e w' => e = .returned (.bool (patB ws ps f ch a)) ∧ Below w.heap.size w w' := by
  induction f with
  | zero => intro _ _ _ n cw m cp k cc a ai ws ps ch w _ _ _ _ _ _ hk hf; omega
  | succ f ih =>
    intro Aw Ap Ac n cw m cp k cc a ai ws ps ch w hai hw hp hc hn7 hm7 hkm hf han
    subst hai
    have HL := Lib.hid (And.intro hw.1 (And.intro hp.1 hc.1))
    have IH := Lib.hid ih
    clear ih
    by_cases hk : k = m
    · subst hk
      have HR := Lib.hid (patB_full (ws := ws) (ps := ps) (ch := ch) (f := f) (a := a) (by have := HL.out; omega))
      go_enter Try.func69, Try.ntmps69
      go_wp2_with fail
      go_ret
      exact ⟨ret_bool HR.out.symm, Below.refl _ _⟩
    · have hkI : ¬ (k : Int) = (m : Int) := by omega
      have hkmI : (k : Int) < (m : Int) := by omega
      have hkB : ((k : Int) == (m : Int)) = false := by simpa using hkI
      go_enter Try.func69, Try.ntmps69
      go_wp2_with fail
      go_loopw [10] (fun v wr => ∃ i : Nat, a ≤ i ∧ i ≤ n ∧ v = .int .i64 i ∧ (∀ i', a ≤ i' → i' < i → (fitN ps ch (nth ws i') ch.length && patB ws ps f (ch ++ [nth ws i']) (i' + 1)) = false) ∧ Below w.heap.size w wr)
        (fun i _ => n - (intOf i).toNat)
      case atStart => exact ⟨a, Nat.le_refl _, han, rfl, fun i' h1 h2 => absurd h2 (by omega), Below.refl _ _⟩
      case round =>
        obtain ⟨i, hai, hin, rfl, hall, hbel⟩ := hrel
        have HA := Lib.hid hall
        have HB := Lib.hid hbel
        have hw1 := hw.below hbel (Nat.le_refl _)
        have hp1 := hp.below hbel (Nat.le_refl _)
        have hc1 := hc.below hbel (Nat.le_refl _)
        clear hall hbel
        by_cases hlt : i < n
        · have hlI : (i : Int) < (n : Int) := by omega
          obtain ⟨bw, ow, rfl, hbw, hcw⟩ := hw1.at_ (by omega)
          obtain ⟨bp, op, rfl, hbp, hcp⟩ := hp1.at_ (by omega)
          have HCW := Lib.hid (hcw i hlt)
          have HCP := Lib.hid hcp
          have HW1 := Lib.hid hw1
          have HP1 := Lib.hid hp1
          have HC1 := Lib.hid hc1
          obtain ⟨x, hx⟩ : ∃ x, x = nth ws i := ⟨_, rfl⟩
          have HX := Lib.hid hx
          clear hcw hcp hw1 hp1 hc1 hw hp hc hx
          go_wp2_with fail
          go_loopw [11, 12] (fun v j wx => ∃ t : Nat, t ≤ k ∧ j = .int .i64 t ∧ v = .bool (fitN ps ch x t) ∧ Drawn wr wx)
            (fun _ j _ => k - (intOf j).toNat)
          case atStart => exact ⟨0, Nat.zero_le _, rfl, rfl, Drawn.refl _⟩
          case round =>
            obtain ⟨t, htk, rfl, rfl, hD⟩ := hrel
            have HD := Lib.hid hD
            by_cases htl : t < k
            · have htI : (t : Int) < (k : Int) := by omega
              have htm : (t : Int) < (m : Int) := by omega
              obtain ⟨bc, oc, rfl, hbc, hcc⟩ := (hD.si HC1.out).at_ (by omega)
              have k1 := hcc t htl
              obtain ⟨_, _, e2, _, q2⟩ := (hD.si HW1.out).at_ (by omega)
              injection e2 with e2; injection e2 with e21 e22; subst e21; subst e22
              obtain ⟨_, _, e3, _, q3⟩ := (hD.si HP1.out).at_ (by omega)
              injection e3 with e3; injection e3 with e31 e32; subst e31; subst e32
              have k2 := q2 i hlt
              have k3 := q3 t (by omega)
              have k4 := q3 k (by omega)
              rw [← HX.out] at k2
              have hs : fitN ps ch x (t + 1) = (fitN ps ch x t && (decide (nth ch t < x) == decide (nth ps t < nth ps k))) := by
                have e : ch.length = k := HL.out.2.2
                show (_ && (_ == decide (nth ps t < nth ps ch.length))) = _
                rw [e]
              obtain ⟨y, hy⟩ : ∃ y, y = nth ch t := ⟨_, rfl⟩
              obtain ⟨p, hp⟩ : ∃ p, p = nth ps t := ⟨_, rfl⟩
              obtain ⟨q, hq⟩ : ∃ q, q = nth ps k := ⟨_, rfl⟩
              rw [← hy] at k1 hs
              rw [← hp] at k3 hs
              rw [← hq] at k4 hs
              have HS := Lib.hid hs
              clear hs hy hp hq hcc q2 q3 hD
              cases hft : fitN ps ch x t with
              | false =>
                have HFT := Lib.hid hft
                clear hft
                go_wp2_with fail
                go_quiet (fail)
                go_wp2
                go_roundw
                case rel => exact ⟨t + 1, by omega, by go_num, by rw [HS.out, HFT.out]; rfl, HD.out.drewN _⟩
                case measure => simp [intOf]; omega
              | true =>
                have HFT := Lib.hid hft
                clear hft
                by_cases h1 : y < x
                · by_cases h2 : p < q
                  · have HH := Lib.hid (And.intro h1 h2)
                    go_wp2_with fail
                    go_quiet (fail)
                    go_wp2
                    go_roundw
                    case rel => exact ⟨t + 1, by omega, by go_num, by rw [HS.out, HFT.out, decide_eq_true (p := y < x) (by have := HH.out; omega), decide_eq_true (p := p < q) (by have := HH.out; omega)]; rfl, HD.out.drewN _⟩
                    case measure => simp [intOf]; omega
                  · have HH := Lib.hid (And.intro h1 h2)
                    go_wp2_with fail
                    go_quiet (fail)
                    go_wp2
                    go_roundw
                    case rel => exact ⟨t + 1, by omega, by go_num, by rw [HS.out, HFT.out, decide_eq_true (p := y < x) (by have := HH.out; omega), decide_eq_false (p := p < q) (by have := HH.out; omega)]; rfl, HD.out.drewN _⟩
                    case measure => simp [intOf]; omega
                · by_cases h2 : p < q
                  · have HH := Lib.hid (And.intro h1 h2)
                    go_wp2_with fail
                    go_quiet (fail)
                    go_wp2
                    go_roundw
                    case rel => exact ⟨t + 1, by omega, by go_num, by rw [HS.out, HFT.out, decide_eq_false (p := y < x) (by have := HH.out; omega), decide_eq_true (p := p < q) (by have := HH.out; omega)]; rfl, HD.out.drewN _⟩
                    case measure => simp [intOf]; omega
                  · have HH := Lib.hid (And.intro h1 h2)
                    go_wp2_with fail
                    go_quiet (fail)
                    go_wp2
                    go_roundw
                    case rel => exact ⟨t + 1, by omega, by go_num, by rw [HS.out, HFT.out, decide_eq_false (p := y < x) (by have := HH.out; omega), decide_eq_false (p := p < q) (by have := HH.out; omega)]; rfl, HD.out.drewN _⟩
                    case measure => simp [intOf]; omega
            · obtain rfl : k = t := by omega
              have sw := hD.si HW1.out
              have sp := hD.si HP1.out
              have sc := hD.si HC1.out
              have hb2 : Below w.heap.size w wr := HB.out.trans (hD.below _)
              have HB2 := Lib.hid hb2
              obtain ⟨_, _, e2, hbw2, q2⟩ := sw.at_ (by omega)
              injection e2 with e2; injection e2 with e21 e22; subst e21; subst e22
              have k2 := q2 i hlt
              rw [← HX.out] at k2
              have SW := Lib.hid sw
              have SP := Lib.hid sp
              have SC := Lib.hid sc
              clear sw sp sc hb2 q2 hD HD
              cases hft : fitN ps ch x k with
              | false =>
                have HFT := Lib.hid hft
                clear hft
                go_wp2_with fail
                go_quiet (fail)
                go_wp2
                go_roundw
                case rel => exact ⟨i + 1, by omega, by omega, by go_num, fun i' h1 h2 => by
                  rcases Nat.lt_or_ge i' i with h | h
                  · exact HA.out i' h1 h
                  · obtain rfl : i' = i := by omega
                    rw [← HX.out, HL.out.2.2, HFT.out]; rfl, HB2.out.drawnN _⟩
                case measure => simp [intOf]; omega
              | true =>
                have HFT := Lib.hid hft
                clear hft
                obtain ⟨i0, hi0, hz0, hz1, hz2⟩ := info_parts Try.infoInt
                have HI := Lib.hid (And.intro hi0 (And.intro hz0 (And.intro hz1 hz2)))
                clear hi0 hz0 hz1 hz2
                have hwrp : IntKind.i64.wrap ((i : Int) + 1) = (i : Int) + 1 := IntWalk.i64_in _ (by omega)
                have scd : SI wr.drew Ac k ch := SC.out.below ((Below.refl wr.heap.size wr).drew) (Nat.le_refl _)
                have SCD := Lib.hid scd
                have sce : SI (wr.alloc (.cells #[.int .i64 x] 3)).drew Ac k ch := SC.out.below (((Below.refl wr.heap.size wr).alloc (Nat.le_refl _) (.cells #[.int .i64 x] 3)).drew) (Nat.le_refl _)
                have SCE := Lib.hid sce
                clear scd sce
                go_wp2_with fail
                go_region_held3 (fun w' => w'.cell? ⟨bw, ow + i, none⟩ = some (.int .i64 x))
                  (first | go_keep | exact K3 | exact K5 | exact K6)
                  (first
                    | (go_at_call 61
                       with_reducible refine (l1Ints_any Ac k cc ch wr.drew SCD.out (by omega)).mono ?_
                       rintro r3 w3 ⟨A3, n3, c3, rfl, ho3, hb3⟩
                       have K3 : w3.cell? ⟨bw, ow + i, none⟩ = some (.int .i64 x) := by rw [Below.cell hb3 (p := ⟨bw, ow + i, none⟩) (by show bw < wr.heap.size; omega)]; exact k2
                       obtain rfl : k = n3 := by have := ho3.len; have := HL.out; omega
                       have HO3 := Lib.hid ho3
                       have HB3 := Lib.hid hb3
                       have hw3 : wr.heap.size ≤ w3.heap.size := hb3.size
                       clear ho3 hb3)
                    | (refine step_append_wanted _ (by first | rfl | kernel_rfl | simp [Region.wanted, yielded]) (.tmp 58) (.tmp 63) 32 (by rfl) wr.heap.size 3 i0 _ 1 8 Try.underlying32 HI.out.1 HI.out.2.1 HI.out.2.2.1 HI.out.2.2.2 rfl (by omega) (.slice A3 k c3) k _ (by rfl) (HO3.out.1.alloc _)
                         ⟨w3.heap.size, 0, none⟩ 1 1 [.int .i64 x] (by rfl) (by rfl) (World.news_of_block (cs := #[.int .i64 x]) (t := 3) (fr := (0, 0)) (heap_alloc_new w3 _)) (by simp [Value.oneCell'])
                         (by omega) (by unfold maxLen; omega) (by omega) (by simp <;> omega) (w3.heap.size + 1) (by simp) ?_
                       intro g cap w5 hrow5 hgrow hat hlt5
                       have K5 : w5.cell? ⟨bw, ow + i, none⟩ = some (.int .i64 x) := by
                         have hne : some bw ≠ (Value.slice A3 k c3).ownBlock := fun e => by
                           have h9 := HO3.out.lt bw e.symm
                           have h8 : wr.heap.size ≤ bw := h9.1
                           omega
                         rw [hgrow.cell_far ⟨bw, ow + i, none⟩ (by simp <;> omega) hne]
                         exact (Below.cell ((Below.refl w3.heap.size w3).alloc (Nat.le_refl _) _) (p := ⟨bw, ow + i, none⟩) (by show bw < w3.heap.size; omega)).trans K3
                       have bel5 : Below wr.heap.size wr w5 :=
                         ((((Below.refl wr.heap.size wr).drew.trans HB3.out).alloc hw3 _).trans (grow_below hgrow (by simp <;> omega) (fun b hb => (HO3.out.lt b hb).1)))
                       have e5 : ch.map (Value.int .i64) ++ [Value.int .i64 x] = (ch ++ [x]).map (Value.int .i64) := by simp
                       rw [e5] at hrow5
                       have hrec := IH.out (some ⟨bw, ow, none⟩) (some ⟨bp, op, none⟩) (some ⟨g, 0, none⟩) n cw m cp (k + 1) cap (i + 1) ((i : Int) + 1) ws ps (ch ++ [x]) w5 (by omega) (SW.out.below bel5 (Nat.le_refl _)) (SP.out.below bel5 (Nat.le_refl _)) (SI.of_own hrow5) hn7 hm7 (by omega) (by omega) (by omega)
                       have HREC := Lib.hid hrec
                       have HB5 := Lib.hid bel5
                       clear hrow5 hgrow hat bel5 e5 hrec)
                    | (refine step_append_wanted _ (by first | rfl | kernel_rfl | simp [Region.wanted, yielded]) (.tmp 58) (.tmp 63) 32 (by rfl) (wr.alloc (.cells #[.int .i64 x] 3)).drew.heap.size 3 i0 _ 1 8 Try.underlying32 HI.out.1 HI.out.2.1 HI.out.2.2.1 HI.out.2.2.2 rfl (by omega) (.slice A3 k c3) k _ (by rfl) HO3.out.1
                         ⟨wr.heap.size, 0, none⟩ 1 1 [.int .i64 x] (by rfl) (by rfl) (World.news_of_block (cs := #[.int .i64 x]) (t := 3) (fr := (0, 0)) HNB.out) (by simp [Value.oneCell'])
                         (by omega) (by unfold maxLen; omega) (by omega) (by simp <;> omega) w3.heap.size rfl ?_
                       intro g cap w5 hrow5 hgrow hat hlt5
                       have K5 : w5.cell? ⟨bw, ow + i, none⟩ = some (.int .i64 x) := by
                         have hne : some bw ≠ (Value.slice A3 k c3).ownBlock := fun e => by
                           have h9 := HO3.out.lt bw e.symm
                           have h8 : wr.heap.size + 1 ≤ bw := by have := h9.1; simpa [World.drew] using this
                           omega
                         rw [hgrow.cell_far ⟨bw, ow + i, none⟩ (by show bw < w3.heap.size; omega) hne]
                         exact K3
                       have bel5 : Below wr.heap.size wr w5 := HB3.out.trans (grow_below hgrow hw3 (fun b hb => by have h9 := (HO3.out.lt b hb).1; have : wr.heap.size + 1 ≤ b := by simpa [World.drew] using h9
                                                                                                                   omega))
                       have e5 : ch.map (Value.int .i64) ++ [Value.int .i64 x] = (ch ++ [x]).map (Value.int .i64) := by simp
                       rw [e5] at hrow5
                       have hrec := IH.out (some ⟨bw, ow, none⟩) (some ⟨bp, op, none⟩) (some ⟨g, 0, none⟩) n cw m cp (k + 1) cap (i + 1) ((i : Int) + 1) ws ps (ch ++ [x]) w5 (by omega) (SW.out.below bel5 (Nat.le_refl _)) (SP.out.below bel5 (Nat.le_refl _)) (SI.of_own hrow5) hn7 hm7 (by omega) (by omega) (by omega)
                       have HREC := Lib.hid hrec
                       have HB5 := Lib.hid bel5
                       clear hrow5 hgrow hat bel5 e5 hrec)
                    | (go_at_call 69
                       with_reducible refine HREC.out.mono ?_
                       rintro r6 w6 ⟨rfl, hb6⟩
                       have K6 : w6.cell? ⟨bw, ow + i, none⟩ = some (.int .i64 x) := by rw [Below.cell hb6 (p := ⟨bw, ow + i, none⟩) (by have := HB5.out.size; show bw < w5.heap.size; omega)]; exact K5
                       have HB6 := Lib.hid (HB2.out.trans ((HB5.out.trans (hb6.mono HB5.out.size)).mono HB2.out.size))
                       clear hb6)
                    | (go_at_call 61
                       with_reducible refine (l1Ints_any Ac k cc ch (wr.alloc (.cells #[.int .i64 x] 3)).drew SCE.out (by omega)).mono ?_
                       rintro r3 w3 ⟨A3, n3, c3, rfl, ho3, hb3⟩
                       have hb7 : bw < ((wr.alloc (.cells #[.int .i64 x] 3)).drew).heap.size := by
                         have e : ((wr.alloc (.cells #[.int .i64 x] 3)).drew).heap.size = wr.heap.size + 1 := by simp [World.drew]
                         omega
                       have hsz3 : wr.heap.size + 1 ≤ w3.heap.size := by have := hb3.size; simpa [World.drew] using this
                       have K3 : w3.cell? ⟨bw, ow + i, none⟩ = some (.int .i64 x) := by
                         rw [Below.cell hb3 (p := ⟨bw, ow + i, none⟩) hb7]
                         exact (Below.cell (((Below.refl wr.heap.size wr).alloc (Nat.le_refl _) (.cells #[.int .i64 x] 3)).drew) (p := ⟨bw, ow + i, none⟩) (by show bw < wr.heap.size; omega)).trans k2
                       obtain rfl : k = n3 := by have := ho3.len; have := HL.out; omega
                       have hnb := (Blk.new wr 3 #[.int .i64 x]).below ((Below.refl _ (wr.alloc (.cells #[.int .i64 x] 3))).drew.trans hb3) (Blk.new wr 3 #[.int .i64 x]).lt
                       have HNB := Lib.hid hnb
                       have HO3 := Lib.hid ho3
                       have HB3 := Lib.hid ((((Below.refl wr.heap.size wr).alloc (Nat.le_refl _) (.cells #[.int .i64 x] 3))).drew.trans (hb3.mono (by simp [World.drew])))
                       have hw3 : wr.heap.size ≤ w3.heap.size := by omega
                       clear ho3 hb3 hnb))
                all_goals
                  clear hwrp
                  cases hpat : patB ws ps f (ch ++ [x]) (i + 1) with
                  | true =>
                    have HR := Lib.hid (patB_hit (ws := ws) (ps := ps) (ch := ch) (f := f) (a := a) (i := i) hai (by have := HL.out; omega) (by rw [← HX.out, HL.out.2.2]; exact HFT.out) (by rw [← HX.out]; exact hpat))
                    clear hpat
                    go_wp2
                    go_ret
                    exact ⟨ret_bool HR.out.symm, HB6.out⟩
                  | false =>
                    have HPT := Lib.hid hpat
                    clear hpat
                    go_wp2
                    go_roundw
                    case rel => exact ⟨i + 1, by omega, by omega, by go_num, fun i' h1 h2 => by
                      rcases Nat.lt_or_ge i' i with h | h
                      · exact HA.out i' h1 h
                      · obtain rfl : i' = i := by omega
                        rw [← HX.out, HPT.out, Bool.and_false], HB6.out⟩
                    case measure => simp [intOf]; omega
        · have hni : i = n := by omega
          subst hni
          have HR := Lib.hid (patB_miss (ws := ws) (ps := ps) (ch := ch) (f := f) (a := a) (by have := HL.out; omega) (fun i' h1 h2 => HA.out i' h1 (by have := HL.out; omega)))
          go_wp2
          go_ret
          exact ⟨ret_bool HR.out.symm, HB.out⟩
/-- Whether ws has the pattern ps. -/
def hasPB (ws ps : List Int) : Bool := isPermB ws && (isPermB ps && patB ws ps (ps.length + 1) [] 0)
theorem hasPB_1 {ws ps : List Int} (h : isPermB ws = false) : hasPB ws ps = false := by unfold hasPB; rw [h]; rfl
theorem hasPB_2 {ws ps : List Int} (h : isPermB ps = false) : hasPB ws ps = false := by unfold hasPB; rw [h]; simp
theorem hasPB_3 {ws ps : List Int} (h : isPermB ws = true) (h' : isPermB ps = true) : hasPB ws ps = patB ws ps (ps.length + 1) [] 0 := by unfold hasPB; rw [h, h']; rfl
set_option maxHeartbeats 800000 in
theorem specHasPattern_any (A A' : Option Addr) (n c n' c' : Nat) (us vs : List Int) (w : World) (hs : SI w A n us) (hs' : SI w A' n' vs) (hnc : n ≤ c) (hnc' : n' ≤ c') (hn : n ≤ 1099511627776) (hn' : n' ≤ 1099511627776) :
    Calls Try.prog 37 #[.slice A n c, .slice A' n' c'] w fun e w' => e = .returned (.bool (hasPB us vs)) ∧ Below w.heap.size w w' := by
  have hl := hs.1
  have hl' := hs'.1
  cases hu : isPermB us with
  | false =>
    have HE := Lib.hid (hasPB_1 (ps := vs) hu)
    have HU := Lib.hid hu
    clear hu
    go_enter Try.func37, Try.ntmps37
    go_wp2_with fail
    refine (specIsPerm_is c HU.out hs hnc hn).mono ?_
    rintro e w1 ⟨rfl, hd1⟩
    go_wp2
    go_ret
    exact ⟨ret_bool HE.out.symm, hd1.below _⟩
  | true =>
    have HU := Lib.hid hu
    have h7 : n ≤ 7 := by have := (isPermB_P hu).2.1; omega
    clear hu
    cases hv : isPermB vs with
    | false =>
      have HE := Lib.hid (hasPB_2 (ws := us) hv)
      have HV := Lib.hid hv
      clear hv
      go_enter Try.func37, Try.ntmps37
      go_wp2_with fail
      refine (specIsPerm_is c HU.out hs hnc hn).mono ?_
      rintro e w1 ⟨rfl, hd1⟩
      go_wp2_with fail
      refine (specIsPerm_is c' HV.out (hd1.si hs') hnc' hn').mono ?_
      rintro e w2 ⟨rfl, hd2⟩
      go_wp2
      go_ret
      exact ⟨ret_bool HE.out.symm, (hd1.trans hd2).below _⟩
    | true =>
      have HE := Lib.hid (hasPB_3 HU.out hv)
      have HV := Lib.hid hv
      have h7' : n' ≤ 7 := by have := (isPermB_P hv).2.1; omega
      clear hv
      go_enter Try.func37, Try.ntmps37
      go_wp2_with fail
      refine (specIsPerm_is c HU.out hs hnc hn).mono ?_
      rintro e w1 ⟨rfl, hd1⟩
      go_wp2_with fail
      refine (specIsPerm_is c' HV.out (hd1.si hs') hnc' hn').mono ?_
      rintro e w2 ⟨rfl, hd2⟩
      have hd := hd1.trans hd2
      have hP := l1Pattern_any (vs.length + 1) A A' none n c n' c' 0 0 0 0 us vs [] w2 rfl (hd.si hs) (hd.si hs') ⟨rfl, fun h => absurd h (by omega)⟩ h7 h7' (by omega) (by omega) (by omega)
      have HP := Lib.hid hP
      have HD := Lib.hid hd
      clear hP hd hd1 hd2
      go_wp2_with fail
      refine HP.out.mono ?_
      rintro e w3 ⟨rfl, hb3⟩
      have HB := Lib.hid ((HD.out.below w.heap.size).trans (hb3.mono (HD.out.below w.heap.size).size))
      clear hb3
      go_wp2
      go_ret
      exact ⟨ret_bool (by rw [HE.out, hl']), HB.out⟩
end Go.Proofs.Ythpgahlfkmkigaa
