/-
  FnCodes: for every input the law returns true: the drawn permutation is found from its code, and rows and columns of its diagram are the codes of it and of its inverse. No conditions.
-/
import Derived.Test.YtoogmghmnfljjaaDrawTwo
import Derived.Test.YtoogmghmnfljjaaCodes5
import Derived.Test.YtoogmghmnfljjaaInts
import Derived.Test.YtoogmghmnfljjaaImplD
import Derived.Test.YtoogmghmnfljjaaFrameB
namespace Go.Proofs.Ytoogmghmnfljjaa
open Go.ChangeShapes Go.WideShapes Go.ChangeAt Go.RowKit

set_option maxRecDepth 100000 in
set_option maxHeartbeats 8000000 in
theorem walk_FnCodes (A : Option Addr) (n c : Nat) (bs : List Int) (w : World) (hs : SB w w.heap.size A n bs) :
    Calls Try.prog 13 #[.slice A n c] w fun e w' => e = .returned (.bool true) ∧ Below w.heap.size w w' := by
  by_cases hbig : 1048576 < n
  · have hbI : decide (1048576 < (n : Int)) = true := by simp; omega
    go_enter Try.func13, Try.ntmps13
    go_wp2_with fail
    refine (big_any A n c w).mono ?_
    rintro e w1 ⟨rfl, rfl⟩
    rw [hbI]
    go_wp2
    go_ret
    exact ⟨rfl, Below.refl _ _⟩
  have hbI : decide (1048576 < (n : Int)) = false := by simp; omega
  have HbI := Lib.hid hbI
  clear hbI
  have HS0 := Lib.hid hs
  clear hs
  go_enter Try.func13, Try.ntmps13
  go_wp2_with fail
  refine (big_any A n c w).mono ?_
  rintro e w0 ⟨rfl, rfl⟩
  rw [HbI.out]
  go_wp2_with fail
  refine (drawTwoPerms_any A n c bs w HS0.out (by omega)).mono ?_
  rintro e w1 ⟨us, vs, A1, A2, m, c1, c2, rfl, hou, hov, hpu, hpv, hm5, hb⟩
  have HB1 := Lib.hid hb
  have Ou_0 := Lib.hid hou
  have Lu_0 := Lib.hid (Nat.le_refl w1.heap.size)
  have hlu : us.length = m := hou.len
  have K := Lib.hid (And.intro hlu hpu)
  have hF := codes_facts hpu (by omega)
  rw [hlu] at hF
  have HF := Lib.hid hF
  have hm1 : 1 ≤ m := by have := hpu.1; omega
  clear hou hov hpu hpv hb hlu hF
  go_wp2_with fail
  refine (implCode_any _ _ _ us _ Ou_0.out.si (by omega)).mono ?_
  rintro e w2 ⟨Ac, nc, cc, rfl, ho, hb⟩
  have hsz := hb.size
  have HB2 := Lib.hid (HB1.out.trans (hb.mono HB1.out.size))
  have Ou_1 := Lib.hid (Ou_0.out.below hb Lu_0.out)
  have Lu_1 := Lib.hid (Nat.le_trans Lu_0.out hsz)
  have Oc_0 := Lib.hid ho
  have Lc_0 := Lib.hid (Nat.le_refl w2.heap.size)
  have Nc := Lib.hid ho.len
  have Gc := Lib.hid HB1.out.size
  have Du_c : Hid (_ ≤ w1.heap.size) := Lu_0
  clear Ou_0 Lu_0 HB1 hb hsz ho
  obtain rfl : m = nc := by have := Nc.out; rw [HF.out.2.1] at this; exact this
  go_wp2_with fail
  refine (implDiagram_any _ _ _ us _ Ou_1.out.si (by omega)).mono ?_
  rintro e w3 ⟨Al, nl, cl, rfl, ho, hb⟩
  have hsz := hb.size
  have HB3 := Lib.hid (HB2.out.trans (hb.mono HB2.out.size))
  have Ou_2 := Lib.hid (Ou_1.out.below hb Lu_1.out)
  have Lu_2 := Lib.hid (Nat.le_trans Lu_1.out hsz)
  have Oc_1 := Lib.hid (Oc_0.out.below hb Lc_0.out)
  have Lc_1 := Lib.hid (Nat.le_trans Lc_0.out hsz)
  have Ol_0 := Lib.hid ho
  have Ll_0 := Lib.hid (Nat.le_refl w3.heap.size)
  have Nl := Lib.hid ho.len
  have Gl := Lib.hid HB2.out.size
  have Du_l : Hid (_ ≤ w2.heap.size) := Lu_1
  have Dc_l : Hid (_ ≤ w2.heap.size) := Lc_0
  clear Ou_1 Lu_1 Oc_0 Lc_0 HB2 hb hsz ho
  have hl10 : (nl : Int) ≤ 10 := by have h1 := Nl.out; have h2 := HF.out.2.2.2.2.1; have h3 := HF.out.2.2.2.2.2.2.2.2.2.2.2; omega
  go_wp2_with fail
  refine (implPoc_any _ _ _ (codePerm us) _ Oc_1.out.si (by omega)).mono ?_
  rintro e w4 ⟨Ap, np, cp, rfl, ho, hb⟩
  rw [HF.out.1] at ho
  have hsz := hb.size
  have HB4 := Lib.hid (HB3.out.trans (hb.mono HB3.out.size))
  have Ou_3 := Lib.hid (Ou_2.out.below hb Lu_2.out)
  have Lu_3 := Lib.hid (Nat.le_trans Lu_2.out hsz)
  have Oc_2 := Lib.hid (Oc_1.out.below hb Lc_1.out)
  have Lc_2 := Lib.hid (Nat.le_trans Lc_1.out hsz)
  have Ol_1 := Lib.hid (Ol_0.out.below hb Ll_0.out)
  have Ll_1 := Lib.hid (Nat.le_trans Ll_0.out hsz)
  have Op_0 := Lib.hid ho
  have Lp_0 := Lib.hid (Nat.le_refl w4.heap.size)
  have Np := Lib.hid ho.len
  have Gp := Lib.hid HB3.out.size
  have Du_p : Hid (_ ≤ w3.heap.size) := Lu_2
  have Dc_p : Hid (_ ≤ w3.heap.size) := Lc_1
  have Dl_p : Hid (_ ≤ w3.heap.size) := Ll_0
  clear Ou_2 Lu_2 Oc_1 Lc_1 Ol_0 Ll_0 HB3 hb hsz ho
  obtain rfl : m = np := by have := Np.out; have := K.out.1; omega
  go_wp2_with fail
  refine (ints_any _ _ _ _ _ _ us us _ Op_0.out.si Ou_3.out.si (by omega) (by omega)).mono ?_
  rintro e w5 ⟨rfl, hd⟩
  rw [eqL_self]
  have hb : Below w4.heap.size w4 w5 := hd.below _
  have hsz := hb.size
  have HB5 := Lib.hid (HB4.out.trans (hb.mono HB4.out.size))
  have Ou_4 := Lib.hid (Ou_3.out.below hb Lu_3.out)
  have Lu_4 := Lib.hid (Nat.le_trans Lu_3.out hsz)
  have Oc_3 := Lib.hid (Oc_2.out.below hb Lc_2.out)
  have Lc_3 := Lib.hid (Nat.le_trans Lc_2.out hsz)
  have Ol_2 := Lib.hid (Ol_1.out.below hb Ll_1.out)
  have Ll_2 := Lib.hid (Nat.le_trans Ll_1.out hsz)
  have Op_1 := Lib.hid (Op_0.out.below hb Lp_0.out)
  have Lp_1 := Lib.hid (Nat.le_trans Lp_0.out hsz)
  clear Ou_3 Lu_3 Oc_2 Lc_2 Ol_1 Ll_1 Op_0 Lp_0 HB4 hb hsz hd
  go_wp2_with fail
  refine (lsum_any _ _ _ (codePerm us) _ Oc_3.out.si (by omega) HF.out.2.2.1).mono ?_
  rintro e w6 ⟨rfl, hd⟩
  rw [HF.out.2.2.2.1]
  have hb : Below w5.heap.size w5 w6 := hd.below _
  have hsz := hb.size
  have HB6 := Lib.hid (HB5.out.trans (hb.mono HB5.out.size))
  have Ou_5 := Lib.hid (Ou_4.out.below hb Lu_4.out)
  have Lu_5 := Lib.hid (Nat.le_trans Lu_4.out hsz)
  have Oc_4 := Lib.hid (Oc_3.out.below hb Lc_3.out)
  have Lc_4 := Lib.hid (Nat.le_trans Lc_3.out hsz)
  have Ol_3 := Lib.hid (Ol_2.out.below hb Ll_2.out)
  have Ll_3 := Lib.hid (Nat.le_trans Ll_2.out hsz)
  have Op_2 := Lib.hid (Op_1.out.below hb Lp_1.out)
  have Lp_2 := Lib.hid (Nat.le_trans Lp_1.out hsz)
  clear Ou_4 Lu_4 Oc_3 Lc_3 Ol_2 Ll_2 Op_1 Lp_1 HB5 hb hsz hd
  go_wp2_with fail
  refine (implLength_any _ _ _ us _ Ou_5.out.si (by omega)).mono ?_
  rintro e w7 ⟨rfl, hb⟩
  have hsz := hb.size
  have HB7 := Lib.hid (HB6.out.trans (hb.mono HB6.out.size))
  have Ou_6 := Lib.hid (Ou_5.out.below hb Lu_5.out)
  have Lu_6 := Lib.hid (Nat.le_trans Lu_5.out hsz)
  have Oc_5 := Lib.hid (Oc_4.out.below hb Lc_4.out)
  have Lc_5 := Lib.hid (Nat.le_trans Lc_4.out hsz)
  have Ol_4 := Lib.hid (Ol_3.out.below hb Ll_3.out)
  have Ll_4 := Lib.hid (Nat.le_trans Ll_3.out hsz)
  have Op_3 := Lib.hid (Op_2.out.below hb Lp_2.out)
  have Lp_3 := Lib.hid (Nat.le_trans Lp_2.out hsz)
  clear Ou_5 Lu_5 Oc_4 Lc_4 Ol_3 Ll_3 Op_2 Lp_2 HB6 hb hsz
  obtain ⟨a, ha⟩ : ∃ a, a = lenPerm us := ⟨_, rfl⟩
  rw [← ha]
  have HAa := Lib.hid ha
  have hla : (nl : Int) = a := by have h1 := Nl.out; have h2 := HF.out.2.2.2.2.1; omega
  have HLA := Lib.hid hla
  clear ha hla
  go_wp2_with fail
  refine (lsum_any _ _ _ (codePerm us) _ Oc_5.out.si (by omega) HF.out.2.2.1).mono ?_
  rintro e w8 ⟨rfl, hd⟩
  rw [HF.out.2.2.2.1, ← HAa.out, ← HLA.out]
  have hb : Below w7.heap.size w7 w8 := hd.below _
  have hsz := hb.size
  have HB8 := Lib.hid (HB7.out.trans (hb.mono HB7.out.size))
  have Ou_7 := Lib.hid (Ou_6.out.below hb Lu_6.out)
  have Lu_7 := Lib.hid (Nat.le_trans Lu_6.out hsz)
  have Oc_6 := Lib.hid (Oc_5.out.below hb Lc_5.out)
  have Lc_6 := Lib.hid (Nat.le_trans Lc_5.out hsz)
  have Ol_5 := Lib.hid (Ol_4.out.below hb Ll_4.out)
  have Ll_5 := Lib.hid (Nat.le_trans Ll_4.out hsz)
  have Op_4 := Lib.hid (Op_3.out.below hb Lp_3.out)
  have Lp_4 := Lib.hid (Nat.le_trans Lp_3.out hsz)
  clear Ou_6 Lu_6 Oc_5 Lc_5 Ol_4 Ll_4 Op_3 Lp_3 HB7 hb hsz hd
  go_wp2_with (first | (at_make; refine wpList_make_zero rfl (.tmp 41) (.tmp 41) rfl m rfl rfl (by omega) ?_; intro x1 hr1 hx1; have HR1 := Lib.hid hr1; have HX1 := Lib.hid hx1; clear hr1 hx1) | (at_make; refine wpList_make_zero rfl (.tmp 44) (.tmp 44) rfl m rfl rfl (by omega) ?_; intro x2 hr2 hx2; have HR2 := Lib.hid hr2; have HX2 := Lib.hid hx2; clear hr2 hx2))
  obtain ⟨gr, hgr⟩ : ∃ gr, gr = w8.heap.size := ⟨_, rfl⟩
  obtain ⟨gc, hgc⟩ : ∃ gc, gc = x1.heap.size := ⟨_, rfl⟩
  have hgrl : gr < x1.heap.size := by rw [hgr]; exact (HR1.out.lt w8.heap.size rfl).2
  have hgcl : gc < x2.heap.size := by rw [hgc]; exact (HR2.out.lt x1.heap.size rfl).2
  have HR1b : Hid (Own x2 gr gc (some ⟨gr, 0, none⟩) m m (cntR Prod.fst (diaPerm us) m 0)) := Lib.hid (by rw [hgr, hgc]; exact HR1.out.below HX2.out (Nat.le_refl _))
  have HR2b : Hid (Own x2 gc x2.heap.size (some ⟨gc, 0, none⟩) m m (cntR Prod.snd (diaPerm us) m 0)) := Lib.hid (by rw [hgc]; exact HR2.out)
  have HBX : Hid (Below gr w8 x2) := Lib.hid (by rw [hgr]; exact HX1.out.trans (HX2.out.mono HX1.out.size))
  have HG := Lib.hid (And.intro hgr (And.intro hgc (And.intro hgrl hgcl)))
  rw [← hgr, ← hgc]
  clear hgr hgc hgrl hgcl HR1 HR2
  have hcs0 := Ol_5.out.si.below (HX1.out.trans (HX2.out.mono HX1.out.size)) (Nat.le_refl _)
  have HCS := Lib.hid hcs0
  clear hcs0 HX1 HX2
  obtain ⟨xs2, hx2⟩ : ∃ z, z = x2.heap.size := ⟨_, rfl⟩
  have HX2 := Lib.hid hx2
  clear hx2
  go_loopw [9] (fun i wr => ∃ k : Nat, k ≤ nl ∧ i = .int .i64 k ∧ Own wr gr gc (some ⟨gr, 0, none⟩) m m (cntR Prod.fst (diaPerm us) m k) ∧ Own wr gc x2.heap.size (some ⟨gc, 0, none⟩) m m (cntR Prod.snd (diaPerm us) m k) ∧ Below gr w8 wr ∧ x2.heap.size ≤ wr.heap.size)
    (fun i _ => nl - (intOf i).toNat)
  case atStart => exact ⟨0, Nat.zero_le _, rfl, HR1b.out, HR2b.out, HBX.out, Nat.le_refl _⟩
  case round =>
    obtain ⟨k, hk, rfl, hor, hoc, hbel, hwz⟩ := hrel
    have HOR := Lib.hid hor
    have HOC := Lib.hid hoc
    have HBE := Lib.hid hbel
    clear HR1b HR2b HBX
    by_cases hlt : k < nl
    · have hlI : (k : Int) < (nl : Int) := by omega
      have hcs := Ol_5.out.si.below (B := gr) hbel (by rw [HG.out.1]; exact Nat.le_refl _)
      obtain ⟨b, o, eAl, hb, hc0, hc1⟩ := hcs.at_ hlt
      have hbg : b < gr := by
        have h0 := Ol_5.out.si.2 (by omega)
        obtain ⟨b', o', e', hb', _⟩ := h0
        rw [eAl] at e'
        injection e' with e'
        injection e' with e1 _ _
        rw [HG.out.1]; omega
      subst eAl
      have hm := HF.out.2.2.2.2.2.1 (ce (diaPerm us) k) (ce_mem (by have := Nl.out; omega))
      obtain ⟨p, hp⟩ : ∃ p : Nat, (ce (diaPerm us) k).1 = (p : Int) := ⟨(ce (diaPerm us) k).1.toNat, by omega⟩
      obtain ⟨q, hq⟩ : ∃ q : Nat, (ce (diaPerm us) k).2 = (q : Int) := ⟨(ce (diaPerm us) k).2.toNat, by omega⟩
      rw [hp] at hc0 hm
      rw [hq] at hc1 hm
      have hpm : p < m := by omega
      have hqm : q < m := by omega
      have hpI : (p : Int) < (m : Int) := by omega
      have hqI : (q : Int) < (m : Int) := by omega
      have er : cntR Prod.fst (diaPerm us) m (k + 1) = (cntR Prod.fst (diaPerm us) m k).set p (nth (cntR Prod.fst (diaPerm us) m k) p + 1) := by
        show incL _ ((ce (diaPerm us) k).1).toNat = _; rw [hp, Int.toNat_natCast]; rfl
      have ec : cntR Prod.snd (diaPerm us) m (k + 1) = (cntR Prod.snd (diaPerm us) m k).set q (nth (cntR Prod.snd (diaPerm us) m k) q + 1) := by
        show incL _ ((ce (diaPerm us) k).2).toNat = _; rw [hq, Int.toNat_natCast]; rfl
      have br := cntR_bound Prod.fst (diaPerm us) m k p
      have bc := cntR_bound Prod.snd (diaPerm us) m k q
      have hr0 := hor.cellAt hpm
      have hrf := hor.frozenAt p
      have hq0 := hoc.cellAt hqm
      have hqf := hoc.frozenAt q
      obtain ⟨s1, t1⟩ := hor.set_ (k := p) (nth (cntR Prod.fst (diaPerm us) m k) p + 1)
      have s2 := hoc.kept t1 (fun g hg => by simp [Value.ownBlock] at hg; intro e; injection e with e; have := HG.out; omega)
      obtain ⟨s3, t3⟩ := s2.set_ (k := q) (nth (cntR Prod.snd (diaPerm us) m k) q + 1)
      have s4 := s1.kept t3 (fun g hg => by simp [Value.ownBlock] at hg; intro e; injection e with e; have := HG.out; omega)
      rw [← er] at s4
      rw [← ec] at s3
      obtain ⟨x, hx⟩ : ∃ x, x = nth (cntR Prod.fst (diaPerm us) m k) p := ⟨_, rfl⟩
      obtain ⟨y, hy⟩ : ∃ y, y = nth (cntR Prod.snd (diaPerm us) m k) q := ⟨_, rfl⟩
      rw [← hx] at br hr0 s3 s4 t1 t3
      rw [← hy] at bc hq0 s3 s4 t3
      obtain ⟨br0, br1⟩ := br
      obtain ⟨bc0, bc1⟩ := bc
      have HS4 := Lib.hid s4
      have HS3 := Lib.hid s3
      have HT := Lib.hid (Nat.le_trans t1.size t3.size)
      have HBN := Lib.hid ((hbel.grown t1 (by have := hbel.size; have := HG.out; omega) (by rintro g ⟨⟩; exact Nat.le_refl _)).grown t3 (by have := hbel.size; have := t1.size; have := HG.out; omega) (by rintro g ⟨⟩; have := HG.out; omega))
      have n1 : ¬ b = gr := by omega
      have n2 : ¬ gr = b := by omega
      have n3 : ¬ gc = gr := by have := HG.out; omega
      have n4 : ¬ gr = gc := by have := HG.out; omega
      have n5 : ¬ b = gc := by have := HG.out; omega
      have n6 : ¬ gc = b := by have := HG.out; omega
      clear hcs hor hoc hbel hm hp hq er ec s1 s2 s3 s4 t1 t3 hx hy
      go_wp2
      go_roundw
      case rel => exact ⟨k + 1, by omega, by go_num, HS4.out, HS3.out, HBN.out, by have := HT.out; omega⟩
      case measure => simp [intOf]; omega
    · have hkn : k = nl := by omega
      subst hkn
      obtain ⟨w9, rfl⟩ : ∃ wz : World, wz = wr := ⟨_, rfl⟩
      have hfin1 := HF.out.2.2.2.2.2.2.1
      have hfin2 := HF.out.2.2.2.2.2.2.2.1
      rw [Nl.out] at hfin1 hfin2
      rw [hfin1] at HOR
      rw [hfin2] at HOC
      have hb : Below w8.heap.size w8 w9 := by have := HBE.out; rw [HG.out.1] at this; exact this
      have Or_0 : Hid (Own w9 gr w9.heap.size (some ⟨gr, 0, none⟩) m m (codePerm us)) := Lib.hid (HOR.out.wide (Nat.le_refl _) (by have := HG.out; omega))
      have Oq_0 : Hid (Own w9 gc w9.heap.size (some ⟨gc, 0, none⟩) m m (codePerm (invPerm us))) := Lib.hid (HOC.out.wide (Nat.le_refl _) hwz)
      clear hor hoc hbel hfin1 hfin2 HOR HOC
      have hsz := hb.size
      have HB9 := Lib.hid (HB8.out.trans (hb.mono HB8.out.size))
      have Ou_8 := Lib.hid (Ou_7.out.below hb Lu_7.out)
      have Lu_8 := Lib.hid (Nat.le_trans Lu_7.out hsz)
      have Oc_7 := Lib.hid (Oc_6.out.below hb Lc_6.out)
      have Lc_7 := Lib.hid (Nat.le_trans Lc_6.out hsz)
      have Ol_6 := Lib.hid (Ol_5.out.below hb Ll_5.out)
      have Ll_6 := Lib.hid (Nat.le_trans Ll_5.out hsz)
      have Op_5 := Lib.hid (Op_4.out.below hb Lp_4.out)
      have Lp_5 := Lib.hid (Nat.le_trans Lp_4.out hsz)
      clear Ou_7 Lu_7 Oc_6 Lc_6 Ol_5 Ll_5 Op_4 Lp_4 HB8 hb hsz
      have Lr_0 := Lib.hid (Nat.le_refl w9.heap.size)
      have Lq_0 := Lib.hid (Nat.le_refl w9.heap.size)
      go_wp2_with fail
      refine (ints_any _ _ _ _ _ _ (codePerm us) (codePerm us) _ Or_0.out.si Oc_7.out.si (by omega) (by omega)).mono ?_
      rintro e w10 ⟨rfl, hd⟩
      rw [eqL_self]
      have hb : Below w9.heap.size w9 w10 := hd.below _
      have hsz := hb.size
      have HB10 := Lib.hid (HB9.out.trans (hb.mono HB9.out.size))
      have Ou_9 := Lib.hid (Ou_8.out.below hb Lu_8.out)
      have Lu_9 := Lib.hid (Nat.le_trans Lu_8.out hsz)
      have Oc_8 := Lib.hid (Oc_7.out.below hb Lc_7.out)
      have Lc_8 := Lib.hid (Nat.le_trans Lc_7.out hsz)
      have Ol_7 := Lib.hid (Ol_6.out.below hb Ll_6.out)
      have Ll_7 := Lib.hid (Nat.le_trans Ll_6.out hsz)
      have Op_6 := Lib.hid (Op_5.out.below hb Lp_5.out)
      have Lp_6 := Lib.hid (Nat.le_trans Lp_5.out hsz)
      have Or_1 := Lib.hid (Or_0.out.below hb Lr_0.out)
      have Lr_1 := Lib.hid (Nat.le_trans Lr_0.out hsz)
      have Oq_1 := Lib.hid (Oq_0.out.below hb Lq_0.out)
      have Lq_1 := Lib.hid (Nat.le_trans Lq_0.out hsz)
      clear Ou_8 Lu_8 Oc_7 Lc_7 Ol_6 Ll_6 Op_5 Lp_5 Or_0 Lr_0 Oq_0 Lq_0 HB9 hb hsz hd
      go_wp2_with fail
      refine (implInverse_any _ _ _ us _ Ou_9.out.si (by omega)).mono ?_
      rintro e w11 ⟨Ay, ny, cy, rfl, ho, hb⟩
      have hsz := hb.size
      have HB11 := Lib.hid (HB10.out.trans (hb.mono HB10.out.size))
      have Ou_10 := Lib.hid (Ou_9.out.below hb Lu_9.out)
      have Lu_10 := Lib.hid (Nat.le_trans Lu_9.out hsz)
      have Oc_9 := Lib.hid (Oc_8.out.below hb Lc_8.out)
      have Lc_9 := Lib.hid (Nat.le_trans Lc_8.out hsz)
      have Ol_8 := Lib.hid (Ol_7.out.below hb Ll_7.out)
      have Ll_8 := Lib.hid (Nat.le_trans Ll_7.out hsz)
      have Op_7 := Lib.hid (Op_6.out.below hb Lp_6.out)
      have Lp_7 := Lib.hid (Nat.le_trans Lp_6.out hsz)
      have Or_2 := Lib.hid (Or_1.out.below hb Lr_1.out)
      have Lr_2 := Lib.hid (Nat.le_trans Lr_1.out hsz)
      have Oq_2 := Lib.hid (Oq_1.out.below hb Lq_1.out)
      have Lq_2 := Lib.hid (Nat.le_trans Lq_1.out hsz)
      have Oy_0 := Lib.hid ho
      have Ly_0 := Lib.hid (Nat.le_refl w11.heap.size)
      have Ny := Lib.hid ho.len
      have Gy := Lib.hid HB10.out.size
      have Du_y : Hid (_ ≤ w10.heap.size) := Lu_9
      have Dc_y : Hid (_ ≤ w10.heap.size) := Lc_8
      have Dl_y : Hid (_ ≤ w10.heap.size) := Ll_7
      have Dp_y : Hid (_ ≤ w10.heap.size) := Lp_6
      have Dr_y : Hid (_ ≤ w10.heap.size) := Lr_1
      have Dq_y : Hid (_ ≤ w10.heap.size) := Lq_1
      clear Ou_9 Lu_9 Oc_8 Lc_8 Ol_7 Ll_7 Op_6 Lp_6 Or_1 Lr_1 Oq_1 Lq_1 HB10 hb hsz ho
      obtain rfl : m = ny := by have := Ny.out; have := HF.out.2.2.2.2.2.2.2.2.1; omega
      go_wp2_with fail
      refine (implCode_any _ _ _ (invPerm us) _ Oy_0.out.si (by omega)).mono ?_
      rintro e w12 ⟨Az, nz, cz, rfl, ho, hb⟩
      have hsz := hb.size
      have HB12 := Lib.hid (HB11.out.trans (hb.mono HB11.out.size))
      have Ou_11 := Lib.hid (Ou_10.out.below hb Lu_10.out)
      have Lu_11 := Lib.hid (Nat.le_trans Lu_10.out hsz)
      have Oc_10 := Lib.hid (Oc_9.out.below hb Lc_9.out)
      have Lc_10 := Lib.hid (Nat.le_trans Lc_9.out hsz)
      have Ol_9 := Lib.hid (Ol_8.out.below hb Ll_8.out)
      have Ll_9 := Lib.hid (Nat.le_trans Ll_8.out hsz)
      have Op_8 := Lib.hid (Op_7.out.below hb Lp_7.out)
      have Lp_8 := Lib.hid (Nat.le_trans Lp_7.out hsz)
      have Or_3 := Lib.hid (Or_2.out.below hb Lr_2.out)
      have Lr_3 := Lib.hid (Nat.le_trans Lr_2.out hsz)
      have Oq_3 := Lib.hid (Oq_2.out.below hb Lq_2.out)
      have Lq_3 := Lib.hid (Nat.le_trans Lq_2.out hsz)
      have Oy_1 := Lib.hid (Oy_0.out.below hb Ly_0.out)
      have Ly_1 := Lib.hid (Nat.le_trans Ly_0.out hsz)
      have Oz_0 := Lib.hid ho
      have Lz_0 := Lib.hid (Nat.le_refl w12.heap.size)
      have Nz := Lib.hid ho.len
      have Gz := Lib.hid HB11.out.size
      have Du_z : Hid (_ ≤ w11.heap.size) := Lu_10
      have Dc_z : Hid (_ ≤ w11.heap.size) := Lc_9
      have Dl_z : Hid (_ ≤ w11.heap.size) := Ll_8
      have Dp_z : Hid (_ ≤ w11.heap.size) := Lp_7
      have Dr_z : Hid (_ ≤ w11.heap.size) := Lr_2
      have Dq_z : Hid (_ ≤ w11.heap.size) := Lq_2
      have Dy_z : Hid (_ ≤ w11.heap.size) := Ly_0
      clear Ou_10 Lu_10 Oc_9 Lc_9 Ol_8 Ll_8 Op_7 Lp_7 Or_2 Lr_2 Oq_2 Lq_2 Oy_0 Ly_0 HB11 hb hsz ho
      obtain rfl : m = nz := by have := Nz.out; have := HF.out.2.2.2.2.2.2.2.2.2.1; omega
      go_wp2_with fail
      refine (ints_any _ _ _ _ _ _ (codePerm (invPerm us)) (codePerm (invPerm us)) _ Oq_3.out.si Oz_0.out.si (by omega) (by omega)).mono ?_
      rintro e w13 ⟨rfl, hd⟩
      rw [eqL_self]
      have hb : Below w12.heap.size w12 w13 := hd.below _
      have hsz := hb.size
      have HB13 := Lib.hid (HB12.out.trans (hb.mono HB12.out.size))
      have Ou_12 := Lib.hid (Ou_11.out.below hb Lu_11.out)
      have Lu_12 := Lib.hid (Nat.le_trans Lu_11.out hsz)
      have Oc_11 := Lib.hid (Oc_10.out.below hb Lc_10.out)
      have Lc_11 := Lib.hid (Nat.le_trans Lc_10.out hsz)
      have Ol_10 := Lib.hid (Ol_9.out.below hb Ll_9.out)
      have Ll_10 := Lib.hid (Nat.le_trans Ll_9.out hsz)
      have Op_9 := Lib.hid (Op_8.out.below hb Lp_8.out)
      have Lp_9 := Lib.hid (Nat.le_trans Lp_8.out hsz)
      have Or_4 := Lib.hid (Or_3.out.below hb Lr_3.out)
      have Lr_4 := Lib.hid (Nat.le_trans Lr_3.out hsz)
      have Oq_4 := Lib.hid (Oq_3.out.below hb Lq_3.out)
      have Lq_4 := Lib.hid (Nat.le_trans Lq_3.out hsz)
      have Oy_2 := Lib.hid (Oy_1.out.below hb Ly_1.out)
      have Ly_2 := Lib.hid (Nat.le_trans Ly_1.out hsz)
      have Oz_1 := Lib.hid (Oz_0.out.below hb Lz_0.out)
      have Lz_1 := Lib.hid (Nat.le_trans Lz_0.out hsz)
      clear Ou_11 Lu_11 Oc_10 Lc_10 Ol_9 Ll_9 Op_8 Lp_8 Or_3 Lr_3 Oq_3 Lq_3 Oy_1 Ly_1 Oz_0 Lz_0 HB12 hb hsz hd
      go_wp2
      go_ret
      exact ⟨rfl, HB13.out⟩

set_option maxRecDepth 100000 in
theorem lifted_FnCodes (os : Os) (started : os.Started) (H : Type) (enc : TypeId × Value → H) :
    ReturnsInHanded {} Try.checked os 13 .any (Rows.fnCodesSpec.pre6 enc Try.prog Try.f13 Rows.fnCodesRow.domain false) (Rows.fnCodesSpec.post enc Try.prog Try.f13 false true false false) := by
  refine returnsInHanded_of_change (C := Try.checked) own started (by kernel_rfl) Try.func13
    (ChangeSpec.witness6 (enc := enc) (C := Try.checked) false ⟨#[], #[.slice none 0 0], []⟩ 8 (by kernel_rfl) (by kernel_rfl) (by kernel_rfl) (by kernel_rfl)) ?_
  intro W base args ds gs before hval0 hW hcnd _
  have hval : ∀ (j : Nat) t v, Try.f13.params[j]? = some t → args[j]? = some v → Value.okWide Try.prog W .any base t v := hval0
  have hW' := hW
  obtain ⟨p, q, hA0, hV, rfl, hfz, hnd⟩ := hW
  have hA : DataW.TrodAll enc Try.prog W 0 (fun _ => true) true Try.f13.params.toList args.toList ds p := hA0
  rw [Try.params13] at hA hval
  obtain ⟨v0, vs0, d0, ds0, p0, q0, hargs, rfl, rfl, h0, r0⟩ := trodAll_cons hA
  obtain ⟨rfl, rfl, rfl⟩ := trodAll_nil r0
  obtain rfl : args = #[v0] := by cases args; simp_all
  obtain ⟨rfl, rfl⟩ := trodVars_none hV
  obtain ⟨b0, len0, cap0, rfl⟩ := okWide_slice Try.underlying47 (hval 0 47 v0 rfl rfl)
  have k0 := h0
  have lt0 : ∀ x ∈ p0, x.block < W.heap.size := by obtain ⟨m, hm⟩ := k0; exact DataW.trod_lt m _ _ _ hm
  obtain ⟨bs, s0⟩ := SB.of_trod h0
  clear hA0 hval0
  refine (walk_FnCodes b0 len0 cap0 bs W s0).mono fun e W' ⟨he, bel⟩ => ?_
  subst he
  exact ⟨_, rfl, _, _, _, [], _, [], hW', trodAll_mk1 (shut_bool Try.underlying4 _), (trodAll_cons_mk (Below.trod laidOut (by kernel_rfl) (of_decide_eq_true (by kernel_rfl)) k0 bel lt0) trodAll_mk0), rfl, bel.frame _, fun h => by cases h⟩

theorem fnCodes_holds : Rows.FnCodesSaid :=
  OpenClaim.holds_of_wide 13 Try.f13 rfl rfl rfl rfl rfl rfl rfl ⟨rfl, rfl, rfl, rfl, rfl⟩ rfl rfl rfl rfl rfl (by kernel_rfl) Try.func13 (by kernel_rfl)
    (of_decide_eq_true (by kernel_rfl)) (by unfold Func.isWrapper; first | (rw [if_pos (by decide +kernel)]; kernel_rfl) | (rw [if_neg (by decide +kernel)]; exact ⟨rfl, rfl⟩))
    (fun os started H enc _ => lifted_FnCodes os started H enc)

end Go.Proofs.Ytoogmghmnfljjaa
