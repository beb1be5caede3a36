import Derived.Test.YtoopilemlgamkaaDoorH7
import Derived.Test.YtoopilemlgamkaaDoorG2
import Derived.Test.YtoopilemlgamkaaDoorG3
set_option linter.unusedVariables false
namespace Go.Proofs.YtoopilemlgamkaaDoor
open Go.RowKit

theorem pad_all {zs : List Nat} (h : AllB zs) : AllB (pad zs) := by
  intro x hx
  unfold pad at hx
  rcases List.mem_append.1 hx with h1 | h1
  · rcases List.mem_append.1 h1 with h1 | h1
    · exact h x h1
    · rcases List.mem_cons.1 h1 with rfl | h2
      · decide
      · rw [(List.mem_replicate.1 h2).2]; decide
  · exact be64_all _ x h1
theorem pad_blocks (zs : List Nat) : (pad zs).length = 64 * ((pad zs).length / 64) := by
  rw [pad_len]; unfold zer; omega

theorem chs_bits2 (e f g : Nat) (he : e < 4294967296) (hf : f < 4294967296) (hg : g < 4294967296) : bits BinOp.xor IntKind.u32 (bits BinOp.and IntKind.u32 (e : Int) (f : Int)) (bits BinOp.and IntKind.u32 (bits BinOp.xor IntKind.u32 (e : Int) 4294967295) (g : Int)) = ((chs e f g : Nat) : Int) := by
  have h1 : bits BinOp.xor IntKind.u32 (e : Int) 4294967295 = ((4294967295 - e : Nat) : Int) := by
    have h := u32_xor_nat e 4294967295 he (by decide)
    rw [Nat.xor_comm, not32 e he] at h
    exact h
  rw [h1, u32_and_nat _ _ he hf, u32_and_nat _ _ (by omega) hg, u32_xor_nat _ _ (and_lt he) (and_lt (by omega))]; rfl
theorem OwnB.only {W W' : World} {base g : Nat} {v : Value} {xs : List Nat} (h : OwnB W base v xs) (ho : Only g W W') (hb : g < base) : OwnB W' base v xs := by
  refine ⟨h.1, ?_⟩
  rcases h.2 with h2 | ⟨g', cap, cur, hv, hg, hh, r⟩
  · exact .inl h2
  · exact .inr ⟨g', cap, cur, hv, hg, (ho.2 g' (by omega)).trans hh, r⟩
theorem list8 {l : List Nat} (h : l.length = 8) : l = [l.getD 0 0, l.getD 1 0, l.getD 2 0, l.getD 3 0, l.getD 4 0, l.getD 5 0, l.getD 6 0, l.getD 7 0] := by
  have g : ∀ j, j < 8 → l[j]? = some (l.getD j 0) := fun j hj => by
    rw [List.getD_eq_getElem?_getD, List.getElem?_eq_getElem (by omega)]; rfl
  apply List.ext_getElem?
  intro j
  by_cases hj : j < 8
  · rcases j with _ | _ | _ | _ | _ | _ | _ | _ | j
    · exact g 0 (by decide)
    · exact g 1 (by decide)
    · exact g 2 (by decide)
    · exact g 3 (by decide)
    · exact g 4 (by decide)
    · exact g 5 (by decide)
    · exact g 6 (by decide)
    · exact g 7 (by decide)
    · omega
  · rw [List.getElem?_eq_none (by omega), List.getElem?_eq_none (by simp; omega)]
theorem runB_next (s P : List Nat) (k : Nat) : runB s (k + 1) P = comp (runB s k P) ((P.drop (64 * k)).take 64) := by
  rw [runB_add]; rfl
theorem own_part {W : World} {base gp L cp : Nat} {P : List Nat} (h : OwnB W base (.slice (some ⟨gp, 0, none⟩) L cp) P) (T : Nat) (hT : T + 64 ≤ P.length) : ∀ j u, (bs ((P.drop T).take 64))[j]? = some u → W.cell? ⟨gp, T + j, none⟩ = some u := by
  intro j u hu
  have hj : j < 64 := by
    have := (List.getElem?_eq_some_iff.1 hu).1
    rw [bs_len, List.length_take] at this; omega
  have hl : L = P.length := by obtain ⟨A', c', hv, _⟩ := h.shape; cases hv; rfl
  subst hl
  rw [h.cell (T + j) (by omega), ← hu, bs_get _ j (by rw [List.length_take, List.length_drop]; omega), List.getElem?_take, if_pos hj, List.getElem?_drop]

set_option maxHeartbeats 8000000 in
set_option maxRecDepth 100000 in
theorem rsum_aux (A : Option Addr) (N cap : Nat) (zs P Z : List Nat) (w : World) (nb : Nat) (HN : Hid (N = zs.length)) (hr : Rd w w.heap.size A (bs zs)) (hsz : zs.length ≤ 1000000) (hk : Kr w)
    (HP : Hid (pad zs = P)) (HPA : Hid (AllB P)) (HPL : Hid (P.length = 64 * nb)) (HZ : Hid (outB (runB h0 nb P) = Z)) :
    Calls Tryd.prog 15 #[.slice A N cap] w fun e w' => e = .returned (.agg (bs Z).toArray) ∧ Below w.heap.size w w' := by
  have HK := Lib.hid hk
  have HR := Lib.hid hr
  have HSZ := Lib.hid hsz
  clear hk hr hsz
  go_enter Tryd.func15, Tryd.ntmps15
  go_upto_region 1 with fail
  go_cut [3] (fun p wx => p = .pointer (some ⟨w.heap.size + 1, 0, none⟩) ∧ Arr wx w.heap.size 32 24 (bs (List.replicate 32 0)) ∧ Arr wx (w.heap.size + 1) 8 30 (us h0) ∧ Below w.heap.size w wx)
  case first =>
    go_wp2_with fail
    go_meet
    exact ⟨rfl, duo_new w _ _ _ _ _ _ _ _ rfl rfl rfl rfl (by decide) (by decide)⟩
  case rest =>
    obtain ⟨rfl, a1, s1, hbw⟩ := hcut
    go_upto_region 3 with (go_at_call 37; refine (rpadded_any A N cap zs _ HN.out ((HR.out.below hbw).more hbw.size) HSZ.out).mono ?_; rintro e w2 ⟨v2, rfl, hown2, hbel2⟩)
    rw [HP.out] at hown2
    have a2 := a1.later hbel2
    have s2 := s1.later hbel2
    have hb2 := later hbw hbel2
    have hsw := hbw.size
    have hs1 := s1.lt
    have hsz2 := hbel2.size
    clear a1 s1
    have hP0 : 0 < P.length := by rw [← HP.out, pad_len]; omega
    obtain ⟨LP, HLP⟩ : ∃ LP, Hid (P.length = LP) := ⟨_, Lib.hid rfl⟩
    have HLN : Hid (LP = 64 * nb) := Lib.hid (by rw [← HLP.out, HPL.out])
    have hLP : LP ≤ 2000000 := by
      have h1 := HLP.out; have h2 := HSZ.out
      rw [← HP.out, pad_len] at h1; unfold zer at h1; omega
    obtain ⟨gp, cp, rfl, hgp, hgp2, hcp, hcm⟩ := hown2.some_ hP0
    rw [HLP.out] at hown2 hcp ⊢
    have hgp3 : w.heap.size + 1 < gp := by omega
    clear hP0 hbel2 hbw hsw
    generalize wc.heap.size = B0 at hown2 hsz2 hs1 hgp
    clear hgp
    go_wp2_with fail
    go_loopw [5] (fun i W => ∃ k : Nat, k ≤ nb ∧ i = .int .i64 ((64 * k : Nat) : Int) ∧ Arr W w.heap.size 32 24 (bs (List.replicate 32 0)) ∧ Arr W (w.heap.size + 1) 8 30 (us (runB h0 k P)) ∧ OwnB W B0 (.slice (some ⟨gp, 0, none⟩) LP cp) P ∧ Below w.heap.size w W ∧ B0 ≤ W.heap.size) (fun i _ => 64 * nb - (intOf i).toNat)
    case atStart => exact ⟨0, Nat.zero_le _, rfl, a2, s2, hown2, hb2, hsz2⟩
    case round =>
      obtain ⟨k, hk, rfl, ra, rs, rown, rb, rsz⟩ := hrel
      clear a2 s2 hown2 hb2 hsz2
      by_cases hlt : k < nb
      · obtain ⟨T, HT⟩ : ∃ T, Hid (64 * k = T) := ⟨_, Lib.hid rfl⟩
        have hTL : T + 64 ≤ LP := by have := HT.out; have := HLN.out; omega
        have hTP : T + 64 ≤ P.length := by rw [HLP.out]; exact hTL
        have HPC := Lib.hid (own_part rown T hTP)
        have HNX := Lib.hid (runB_next h0 P k)
        rw [HT.out] at HNX ⊢
        have hbl : ((P.drop T).take 64).length = 64 := by rw [List.length_take, List.length_drop]; omega
        have hba : AllB ((P.drop T).take 64) := fun x hx => HPA.out x (List.mem_of_mem_drop (List.mem_of_mem_take hx))
        generalize (P.drop T).take 64 = blk at HPC HNX hbl hba
        have hwb := fun W c1 c2 c3 => rwords_any gp T (cp - T) blk hbl hba W c1 c2 c3
        have HWB := Lib.hid hwb
        have HS0L := Lib.hid (runB_len k (s := h0) P rfl)
        have HS0A := Lib.hid (runB_all k (s := h0) P h0_all)
        generalize runB h0 k P = S0 at rs HNX HS0L HS0A
        have t1 : (T : Int) < (LP : Int) := by omega
        have t2 : (T : Int) + 64 ≤ (LP : Int) := by omega
        have t3 : (T : Int) + 64 ≤ (cp : Int) := by omega
        have t4 : ((T : Int) + 64).toNat = T + 64 := by omega
        have t5 : (0 : Int) ≤ (T : Int) := by omega
        have t6 : T + 64 - T = 64 := by omega
        have hgw : gp < wr.heap.size := (World.ownsRow.lt rown gp rfl).2
        have h64 : 64 ≤ cp - T := by omega
        obtain ⟨Q, HQ⟩ : ∃ Q, Hid (sched blk = Q) := ⟨_, Lib.hid rfl⟩
        have HQL : Hid (Q.length = 64) := Lib.hid (by rw [← HQ.out]; exact sched_len blk)
        have HQA : Hid (AllW Q) := Lib.hid (by rw [← HQ.out]; exact sched_all hba)
        have HQU : Hid ((us Q).length = 64) := by show (us Q).length = 64; rw [us_len, HQL.out]
        have E64 : Hid ((us Q).toArray.size = 64) := Lib.hid (by have := HQU.out; simpa using this)
        rw [HQ.out] at HWB
        clear hTL hTP hbl hba hwb
        go_upto_region 6 with fail
        go_cut [6] (fun p W => ∃ g6, p = .pointer (some ⟨g6, 0, none⟩) ∧ w.heap.size + 1 < g6 ∧ Arr W w.heap.size 32 24 (bs (List.replicate 32 0)) ∧ Arr W (w.heap.size + 1) 8 30 (us S0) ∧ OwnB W B0 (.slice (some ⟨gp, 0, none⟩) LP cp) P ∧ Arr W g6 64 67 (us Q) ∧ Below w.heap.size w W ∧ B0 ≤ W.heap.size)
        case first =>
          go_wp2_with (first
            | (go_at_call 38; with_reducible refine (HWB.out _ hgw h64 HPC.out).mono ?_; rintro e w3 ⟨rfl, hb3⟩)
            | (with_reducible refine wpList_store_new rfl _ (.tmp 6) (.tmp 34) rfl rfl rfl info_words E64.out rfl (all_oneCell_toArray (us_cell _)) ?_; intro w5 hbel5 hrow5 hsz5))
          go_meet
          have hs3 := hb3.size
          have hs5 := hbel5.size
          have hl1 := rs.lt
          exact ⟨w3.heap.size, rfl, by omega, (ra.later hb3).later hbel5, (rs.later hb3).later hbel5, (rown.below hb3).below hbel5, Arr.of_row hrow5 HQU.out (by decide), later (later rb hb3) hbel5, by omega⟩
        case rest =>
          obtain ⟨g6, rfl, hg6, qa, qs, qown, qQ, qb, qsz⟩ := hcut
          clear ra rs rown rb rsz HWB HPC hgw h64 hgp2
          have gd : ∀ j, j < 8 → S0[j]? = some (S0.getD j 0) := fun j hj => by
            rw [List.getD_eq_getElem?_getD, List.getElem?_eq_getElem (by have := HS0L.out; omega)]; rfl
          obtain ⟨S, hS⟩ : ∃ S, St.of S0 = S := ⟨_, rfl⟩
          have hSo := of_ok HS0A.out
          have s0 : wc.cell? ⟨w.heap.size + 1, 0, none⟩ = some (.int .u32 (S.a : Int)) := by rw [← hS]; exact qs.cell (us_get (gd 0 (by decide)))
          have s1 : wc.cell? ⟨w.heap.size + 1, 1, none⟩ = some (.int .u32 (S.b : Int)) := by rw [← hS]; exact qs.cell (us_get (gd 1 (by decide)))
          have s2 : wc.cell? ⟨w.heap.size + 1, 2, none⟩ = some (.int .u32 (S.c : Int)) := by rw [← hS]; exact qs.cell (us_get (gd 2 (by decide)))
          have s3 : wc.cell? ⟨w.heap.size + 1, 3, none⟩ = some (.int .u32 (S.d : Int)) := by rw [← hS]; exact qs.cell (us_get (gd 3 (by decide)))
          have s4 : wc.cell? ⟨w.heap.size + 1, 4, none⟩ = some (.int .u32 (S.e : Int)) := by rw [← hS]; exact qs.cell (us_get (gd 4 (by decide)))
          have s5 : wc.cell? ⟨w.heap.size + 1, 5, none⟩ = some (.int .u32 (S.f : Int)) := by rw [← hS]; exact qs.cell (us_get (gd 5 (by decide)))
          have s6 : wc.cell? ⟨w.heap.size + 1, 6, none⟩ = some (.int .u32 (S.g : Int)) := by rw [← hS]; exact qs.cell (us_get (gd 6 (by decide)))
          have s7 : wc.cell? ⟨w.heap.size + 1, 7, none⟩ = some (.int .u32 (S.h : Int)) := by rw [← hS]; exact qs.cell (us_get (gd 7 (by decide)))
          rw [hS] at hSo
          have HSS := Lib.hid hS
          have QA := Lib.hid qa
          have QS := Lib.hid qs
          have QO := Lib.hid qown
          have QQ := Lib.hid qQ
          clear hS qa qs qown qQ gd
          go_wp2_with fail
          go_quiet (fail)
          go_wp2_with fail
          go_loopw [7, 8, 9, 10, 11, 12, 13, 14, 15] (fun a b c d e f g h i W => ∃ (t q ra rb rc rd re rf rg rh : Nat), t ≤ 64 ∧ i = .int .i64 (t : Int) ∧ Hid ((⟨ra, rb, rc, rd, re, rf, rg, rh⟩ : St) = rnds Q S t) ∧
              a = .int .u32 (ra : Int) ∧ b = .int .u32 (rb : Int) ∧ c = .int .u32 (rc : Int) ∧ d = .int .u32 (rd : Int) ∧ e = .int .u32 (re : Int) ∧ f = .int .u32 (rf : Int) ∧ g = .int .u32 (rg : Int) ∧ h = .int .u32 (rh : Int) ∧ W = wc.drewN q) (fun _ _ _ _ _ _ _ _ i _ => 64 - (intOf i).toNat)
          case atStart => exact ⟨0, _, S.a, S.b, S.c, S.d, S.e, S.f, S.g, S.h, by omega, rfl, Lib.hid rfl, rfl, rfl, rfl, rfl, rfl, rfl, rfl, rfl, rfl⟩
          case round =>
            obtain ⟨t, q, ra, rb, rc, rd, re, rf, rg, rh, ht, rfl, HR, rfl, rfl, rfl, rfl, rfl, rfl, rfl, rfl, rfl⟩ := hrel
            by_cases hlt : t < 64
            · have hok := rnds_ok Q hSo t
              rw [← HR.out] at hok
              obtain ⟨oa, ob, oc, od, oe, of_, og, oh⟩ := hok
              simp only at oa ob oc od oe of_ og oh
              have hkt : kc[t]? = some (kc.getD t 0) := by rw [List.getD_eq_getElem?_getD, List.getElem?_eq_getElem (by rw [kc_len]; exact hlt)]; rfl
              have hqt : Q[t]? = some (Q.getD t 0) := by rw [List.getD_eq_getElem?_getD, List.getElem?_eq_getElem (by rw [HQL.out]; exact hlt)]; rfl
              have kcell := (qb.cell (show (0 : Nat) < _ by have := HK.out.1; omega)).trans (HK.out.2 t _ hkt)
              have qcell := QQ.out.cell (us_get hqt)
              have kv := getD_lt kc_all (by decide) t
              have qv := getD_lt HQA.out (by decide) t
              have HN2 : Hid (rnds Q S (t + 1) = step ⟨ra, rb, rc, rd, re, rf, rg, rh⟩ (kc.getD t 0) (Q.getD t 0)) := by show rnds Q S (t + 1) = _; rw [HR.out]; rfl
              generalize kc.getD t 0 = K at kcell kv HN2
              generalize Q.getD t 0 = X at qcell qv HN2
              have hti : (t : Int) < 64 := by omega
              have ht0 : (0 : Int) ≤ (t : Int) := by omega
              clear hkt hqt s0 s1 s2 s3 s4 s5 s6 s7
              go_wp2_with fail
              go_quiet ((go_at_call 39; first | with_reducible exact quiet_more2 (ref_rotr6 re _ oe) | with_reducible exact quiet_more2 (ref_rotr11 re _ oe) | with_reducible exact quiet_more2 (ref_rotr25 re _ oe)))
              go_wp2_with (first
                | (go_at_call 39; ((with_reducible refine (ref_rotr2 ra _ oa).mono ?_); rintro e w1 ⟨rfl, m1, rfl⟩))
                | (go_at_call 39; ((with_reducible refine (ref_rotr13 ra _ oa).mono ?_); rintro e w1 ⟨rfl, m2, rfl⟩))
                | (go_at_call 39; ((with_reducible refine (ref_rotr22 ra _ oa).mono ?_); rintro e w1 ⟨rfl, m3, rfl⟩)))
              go_roundw
              case rel =>
                rw [bg1_bits re oe, chs_bits2 re rf rg oe of_ og, bg0_bits ra oa, maj_bits ra rb rc oa ob oc]
                refine ⟨t + 1, _, (tx ⟨ra, rb, rc, rd, re, rf, rg, rh⟩ K X + ty ⟨ra, rb, rc, rd, re, rf, rg, rh⟩) % 4294967296, ra, rb, rc, (rd + tx ⟨ra, rb, rc, rd, re, rf, rg, rh⟩ K X) % 4294967296, re, rf, rg, by omega, by go_num, Lib.hid HN2.out.symm, congrArg (Value.int .u32) ?_, rfl, rfl, rfl, congrArg (Value.int .u32) ?_, rfl, rfl, rfl, rfl⟩
                · unfold tx ty; dsimp only; omega
                · unfold tx; dsimp only; omega
              case measure => simp [intOf]; omega
            · have ht64 : t = 64 := by omega
              subst ht64
              have hok := rnds_ok Q hSo 64
              rw [← HR.out] at hok
              obtain ⟨oa, ob, oc, od, oe, of_, og, oh⟩ := hok
              simp only at oa ob oc od oe of_ og oh
              have HC8 : Hid (comp S0 blk = [add32 S.a ra, add32 S.b rb, add32 S.c rc, add32 S.d rd, add32 S.e re, add32 S.f rf, add32 S.g rg, add32 S.h rh]) := by
                refine Lib.hid ?_
                unfold comp
                rw [HQ.out, HSS.out, ← HR.out]
                have hS0 : S0 = S.list := by rw [← HSS.out]; exact list8 HS0L.out
                rw [hS0]; rfl
              have HCU : Hid (#[Value.int .u32 (((S.a : Int) + (ra : Int)) % 4294967296), .int .u32 (((S.b : Int) + (rb : Int)) % 4294967296), .int .u32 (((S.c : Int) + (rc : Int)) % 4294967296), .int .u32 (((S.d : Int) + (rd : Int)) % 4294967296), .int .u32 (((S.e : Int) + (re : Int)) % 4294967296), .int .u32 (((S.f : Int) + (rf : Int)) % 4294967296), .int .u32 (((S.g : Int) + (rg : Int)) % 4294967296), .int .u32 (((S.h : Int) + (rh : Int)) % 4294967296)] = (us (comp S0 blk)).toArray) := by
                refine Lib.hid ?_
                rw [HC8.out]; simp [us, U32, add32]
              have HCL : Hid ((us (comp S0 blk)).length = 8) := by
                refine Lib.hid ?_
                rw [us_len, comp_len _ HS0L.out]
              have HSU8 : Hid ((us S0).length = 8) := by show (us S0).length = 8; rw [us_len, HS0L.out]
              have d0 := hSo.a
              have d1 := hSo.b
              have d2 := hSo.c
              have d3 := hSo.d
              have d4 := hSo.e
              have d5 := hSo.f
              have d6 := hSo.g
              have d7 := hSo.h
              rw [← HNX.out] at HCU HCL
              clear HC8 HNX HR
              generalize hCC : runB h0 (k + 1) P = CC at HCU HCL
              have HCC := Lib.hid hCC
              clear hCC
              go_wp2_with (refine wpList_store_arr rfl _ (.tmp 3) (.tmp 146) rfl (w.heap.size + 1) 0 8 30 _ (us CC) (us S0) rfl rfl HCU.out (show Arr (wc.drewN q) _ _ _ _ from QS.out) (by rw [HCL.out]; omega) (by rw [HCL.out]; exact info_state) (us_cell _) ?_; intro w7 f7 o7)
              rw [setAll_all _ _ (by rw [HCL.out, HSU8.out])] at f7
              go_roundw
              case rel =>
                have hqd : Below w.heap.size w (wc.drewN q) := below_drewN qb q
                have hsz7 := o7.bel.size
                have hb7 := hqd.trans (o7.bel.mono (by omega : w.heap.size ≤ w.heap.size + 1))
                have hsd : (wc.drewN q).heap.size = wc.heap.size := rfl
                exact ⟨k + 1, by omega, congrArg (Value.int .i64) (by have := HT.out; omega), (show Arr (wc.drewN q) _ _ _ _ from QA.out).only o7 (by omega), by rw [HCC.out]; exact f7, OwnB.only (show OwnB (wc.drewN q) _ _ _ from QO.out) o7 (by omega), hb7, by omega⟩
              case measure => have := HT.out; simp [intOf]; omega
      · have hkn : k = nb := by omega
        subst hkn
        have HOUT : Hid (Z = outB (runB h0 k P)) := Lib.hid HZ.out.symm
        have HCA := Lib.hid (runB_all k (s := h0) P h0_all)
        have HC8 := Lib.hid (runB_len k (s := h0) P rfl)
        generalize runB h0 k P = C at rs HOUT HCA HC8
        have HZL : Hid (Z.length = 32) := Lib.hid (by rw [HOUT.out, outB_len])
        have hnl : ¬ ((64 * k : Nat) : Int) < (LP : Int) := by have := HLN.out; omega
        clear hlt rown
        go_upto_region 23 with fail
        have n1 := Arr.new' wr 24 #[.int .u8 0, .int .u8 0, .int .u8 0, .int .u8 0, .int .u8 0, .int .u8 0, .int .u8 0, .int .u8 0, .int .u8 0, .int .u8 0, .int .u8 0, .int .u8 0, .int .u8 0, .int .u8 0, .int .u8 0, .int .u8 0, .int .u8 0, .int .u8 0, .int .u8 0, .int .u8 0, .int .u8 0, .int .u8 0, .int .u8 0, .int .u8 0, .int .u8 0, .int .u8 0, .int .u8 0, .int .u8 0, .int .u8 0, .int .u8 0, .int .u8 0, .int .u8 0] 32 (([] : List Nat).map U8 ++ List.replicate 32 (.int .u8 0)) rfl (by simp) (by decide)
        have nb1 := new_later wr (.cells #[.int .u8 0, .int .u8 0, .int .u8 0, .int .u8 0, .int .u8 0, .int .u8 0, .int .u8 0, .int .u8 0, .int .u8 0, .int .u8 0, .int .u8 0, .int .u8 0, .int .u8 0, .int .u8 0, .int .u8 0, .int .u8 0, .int .u8 0, .int .u8 0, .int .u8 0, .int .u8 0, .int .u8 0, .int .u8 0, .int .u8 0, .int .u8 0, .int .u8 0, .int .u8 0, .int .u8 0, .int .u8 0, .int .u8 0, .int .u8 0, .int .u8 0, .int .u8 0] 24)
        have f7 := rs.later nb1
        have c7 := ra.later nb1
        have hb7 := later rb nb1
        have hgs := rs.lt
        generalize hW : wr.alloc (.cells #[.int .u8 0, .int .u8 0, .int .u8 0, .int .u8 0, .int .u8 0, .int .u8 0, .int .u8 0, .int .u8 0, .int .u8 0, .int .u8 0, .int .u8 0, .int .u8 0, .int .u8 0, .int .u8 0, .int .u8 0, .int .u8 0, .int .u8 0, .int .u8 0, .int .u8 0, .int .u8 0, .int .u8 0, .int .u8 0, .int .u8 0, .int .u8 0, .int .u8 0, .int .u8 0, .int .u8 0, .int .u8 0, .int .u8 0, .int .u8 0, .int .u8 0, .int .u8 0] 24) = w7 at n1 nb1 f7 c7 hb7 ⊢
        clear hW nb1 rs ra rb
        obtain ⟨G, hG⟩ : ∃ G, wr.heap.size = G := ⟨_, rfl⟩
        rw [hG] at n1 hgs ⊢
        clear hG rsz
        go_wp2_with fail
        go_loopw [19] (fun i W => ∃ k : Nat, k ≤ 32 ∧ i = .int .i64 (k : Int) ∧ Arr W G 32 24 ((Z.take k).map U8 ++ List.replicate (32 - k) (.int .u8 0)) ∧ Arr W (w.heap.size + 1) 8 30 (us C) ∧ Arr W w.heap.size 32 24 (bs (List.replicate 32 0)) ∧ Below w.heap.size w W) (fun i _ => 32 - (intOf i).toNat)
        case atStart => exact ⟨0, by omega, rfl, n1, f7, c7, hb7⟩
        case round =>
          obtain ⟨j, hj, rfl, e1, e2, e3, hb⟩ := hrel
          clear n1 f7 c7 hb7
          by_cases hlt : j < 32
          · have hCj : C[j / 4]? = some (C.getD (j / 4) 0) := by rw [List.getD_eq_getElem?_getD, List.getElem?_eq_getElem (by have := HC8.out; omega)]; rfl
            have hcw := e2.cell (us_get hCj)
            have hwv := getD_lt HCA.out (by decide) (j / 4)
            have hZk : Z[j]? = some (C.getD (j / 4) 0 / 2 ^ (24 - j % 4 * 8) % 256) := by rw [HOUT.out]; exact outB_get C j hlt
            have hZl : j < Z.length := by rw [HZL.out]; exact hlt
            have hZg : Z[j] = C.getD (j / 4) 0 / 2 ^ (24 - j % 4 * 8) % 256 := by rw [List.getElem?_eq_getElem hZl] at hZk; exact Option.some.inj hZk
            have hlk : (Z.take j).length = j := by rw [List.length_take]; omega
            have hlk1 : (Z.take (j + 1)).length = j + 1 := by rw [List.length_take]; omega
            have hset := set_next (Z.take j) 32 U8 (.int .u8 0) Z[j] (by omega)
            rw [← List.take_succ_eq_append_getElem hZl, hlk, hlk1, hZg] at hset
            have hcz : (((Z.take j).map U8 ++ List.replicate (32 - j) (.int .u8 0)) : List Value)[j]? = some (.int .u8 0) := by
              rw [List.getElem?_append_right (by rw [List.length_map, hlk]; exact Nat.le_refl _), List.length_map, hlk, Nat.sub_self, List.getElem?_replicate, if_pos (by omega)]
            have hco := e1.cell hcz
            have hfo := e1.free j
            obtain ⟨q, hq⟩ : ∃ q, 24 - j % 4 * 8 = q := ⟨_, rfl⟩
            have hsh : (24 : Int) - 8 * ((j : Int) % 4) = (q : Int) := by omega
            have hq24 : q ≤ 24 := by omega
            rw [hq] at hset
            generalize C.getD (j / 4) 0 = O at hcw hwv hset
            have d1 := e1.set_ j (U8 (O / 2 ^ q % 256))
            rw [hset] at d1
            have D1 := Lib.hid d1
            have hne1 : G ≠ w.heap.size := by omega
            have hne2 : G ≠ w.heap.size + 1 := by omega
            have E2 := Lib.hid (e2.other (j := j) hne2 (U8 (O / 2 ^ q % 256)))
            have E3 := Lib.hid (e3.other (j := j) hne1 (U8 (O / 2 ^ q % 256)))
            have hki : (j : Int) < 32 := by omega
            have hk0 : (0 : Int) ≤ (j : Int) := by omega
            clear hCj hZk hZl hZg hlk hlk1 hset hcz d1 e1 e2 e3 hq
            go_wp2_with fail
            go_roundw
            case rel =>
              have e : ((O : Int) / 2 ^ q % 256) = ((O / 2 ^ q % 256 : Nat) : Int) := by simp
              rw [e]
              exact ⟨j + 1, by omega, by go_num, D1.out, E2.out, E3.out, hb.setCell (show w.heap.size ≤ G by omega) _⟩
            case measure => simp [intOf]; omega
          · have hk32 : j = 32 := by omega
            subst hk32
            rw [List.take_of_length_le (by rw [HZL.out]; exact Nat.le_refl _)] at e1
            have e4 : Arr wr G 32 24 (bs Z) := by simpa [bs] using e1
            have hR := Lib.hid e4.range
            have HBL : Hid ((bs Z).length = 32) := by show (bs Z).length = 32; rw [bs_len, HZL.out]
            have HI5 : Hid ((Tryd.prog.info? 24).map (·.size) = some (bs Z).length) := Lib.hid (by rw [HBL.out]; exact info_sum)
            clear e1 e4 e2
            go_wp2_with (first
              | (with_reducible refine wpList_load_mid rfl _ (.tmp 18) rfl G 0 rfl (bs Z) _ hR.out Tryd.underlying24 rfl HI5.out ?_)
              | (refine wpList_store_arr rfl _ (.tmp 2) (.tmp 163) rfl w.heap.size 0 32 24 _ (bs Z) _ rfl rfl rfl e3 (by rw [HBL.out]; omega) HI5.out (bs_cell Z) ?_; intro w9 f9 o9; have hbw9 := hb.trans o9.bel; rw [setAll_all _ _ (by rw [HBL.out, bs_len]; rfl)] at f9))
            exact bodyPost_ret (results_one rfl _ _ w.heap.size (bs Z) _ rfl f9.range Tryd.underlying24 rfl HI5.out) rfl ⟨rfl, hbw9⟩
theorem rsum_any (A : Option Addr) (N cap : Nat) (zs : List Nat) (w : World) (hN : N = zs.length) (hr : Rd w w.heap.size A (bs zs)) (hb : AllB zs) (hsz : zs.length ≤ 1000000) (hk : Kr w) :
    Calls Tryd.prog 15 #[.slice A N cap] w fun e w' => e = .returned (.agg (bs (sha zs)).toArray) ∧ Below w.heap.size w w' :=
  rsum_aux A N cap zs (pad zs) (sha zs) w _ (Lib.hid hN) hr hsz hk (Lib.hid rfl) (Lib.hid (pad_all hb)) (Lib.hid (pad_blocks zs)) (Lib.hid rfl)
end Go.Proofs.YtoopilemlgamkaaDoor
