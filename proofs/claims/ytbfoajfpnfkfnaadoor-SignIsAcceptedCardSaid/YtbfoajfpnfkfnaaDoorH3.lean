import Derived.Test.YtbfoajfpnfkfnaaDoorH2
import Derived.Test.YtbfoajfpnfkfnaaDoorPack2
set_option linter.unusedVariables false
namespace Go.Proofs.YtbfoajfpnfkfnaaDoor
open Go.RowKit

/-- The table of the constants lies where the program has laid it. -/
def Kc (w : World) : Prop := 2 ≤ w.heap.size ∧ ∀ (t x : Nat), kc[t]? = some x → w.cell? ⟨1, t, none⟩ = some (.int .u32 (x : Int))
theorem Kc.later {w w' : World} (h : Kc w) (hb : Below w.heap.size w w') : Kc w' :=
  ⟨Nat.le_trans h.1 hb.size, fun t x hx => (hb.cell (by have := h.1; show (1 : Nat) < _; omega)).trans (h.2 t x hx)⟩
/-- The same table of the document's own package. -/
def Kr (w : World) : Prop := 2 ≤ w.heap.size ∧ ∀ (t x : Nat), kc[t]? = some x → w.cell? ⟨0, t, none⟩ = some (.int .u32 (x : Int))
theorem Kr.later {w w' : World} (h : Kr w) (hb : Below w.heap.size w w') : Kr w' :=
  ⟨Nat.le_trans h.1 hb.size, fun t x hx => (hb.cell (by have := h.1; show (0 : Nat) < _; omega)).trans (h.2 t x hx)⟩
theorem Arr.of_row {W : World} {g n : Nat} {e : TypeId} {xs : List Value} (h : W.heap[g]? = some (.cells xs.toArray e (0, 0))) (hn : xs.length = n) (hm : n ≤ 1000) : Arr W g n e xs :=
  ⟨by omega, .inr ⟨g, n, xs.toArray, rfl, Nat.le_refl _, h, Nat.le_refl _, by simp only [maxLen]; omega, by simpa using hn, by simp [hn.symm]⟩⟩

theorem not32 (e : Nat) (he : e < 4294967296) : 4294967295 ^^^ e = 4294967295 - e := by
  have h := congrArg BitVec.toNat (BitVec.allOnes_xor (x := BitVec.ofNat 32 e))
  rw [BitVec.toNat_xor, BitVec.toNat_not, BitVec.toNat_allOnes, BitVec.toNat_ofNat, Nat.mod_eq_of_lt (by omega)] at h
  simpa using h
theorem bg1_bits (e : Nat) (he : e < 4294967296) : bits BinOp.xor IntKind.u32 (bits BinOp.xor IntKind.u32 ((rr e 6 : Nat) : Int) ((rr e 11 : Nat) : Int)) ((rr e 25 : Nat) : Int) = ((bg1 e : Nat) : Int) := by
  have h1 := rr_lt e 6 he (by decide)
  have h2 := rr_lt e 11 he (by decide)
  have h3 := rr_lt e 25 he (by decide)
  rw [u32_xor_nat _ _ h1 h2, u32_xor_nat _ _ (xor_lt h1 h2) h3]; rfl
theorem bg0_bits (e : Nat) (he : e < 4294967296) : bits BinOp.xor IntKind.u32 (bits BinOp.xor IntKind.u32 ((rr e 2 : Nat) : Int) ((rr e 13 : Nat) : Int)) ((rr e 22 : Nat) : Int) = ((bg0 e : Nat) : Int) := by
  have h1 := rr_lt e 2 he (by decide)
  have h2 := rr_lt e 13 he (by decide)
  have h3 := rr_lt e 22 he (by decide)
  rw [u32_xor_nat _ _ h1 h2, u32_xor_nat _ _ (xor_lt h1 h2) h3]; rfl
theorem not_bits (e : Nat) (he : e < 4294967296) : bits BinOp.xor IntKind.u32 (if IntKind.u32.signed = true then -1 else IntKind.u32.max) (e : Int) = ((4294967295 - e : Nat) : Int) := by
  have h := u32_xor_nat 4294967295 e (by decide) he
  rw [not32 e he] at h
  exact h
theorem chs_bits (e f g : Nat) (he : e < 4294967296) (hf : f < 4294967296) (hg : g < 4294967296) : bits BinOp.xor IntKind.u32 (bits BinOp.and IntKind.u32 (e : Int) (f : Int)) (bits BinOp.and IntKind.u32 (bits BinOp.xor IntKind.u32 (if IntKind.u32.signed = true then -1 else IntKind.u32.max) (e : Int)) (g : Int)) = ((chs e f g : Nat) : Int) := by
  rw [not_bits e he, u32_and_nat _ _ he hf, u32_and_nat _ _ (by omega) hg, u32_xor_nat _ _ (and_lt he) (and_lt (by omega))]; rfl
theorem maj_bits (a b c : Nat) (ha : a < 4294967296) (hb : b < 4294967296) (hc : c < 4294967296) : bits BinOp.xor IntKind.u32 (bits BinOp.xor IntKind.u32 (bits BinOp.and IntKind.u32 (a : Int) (b : Int)) (bits BinOp.and IntKind.u32 (a : Int) (c : Int))) (bits BinOp.and IntKind.u32 (b : Int) (c : Int)) = ((maj a b c : Nat) : Int) := by
  rw [u32_and_nat _ _ ha hb, u32_and_nat _ _ ha hc, u32_and_nat _ _ hb hc, u32_xor_nat _ _ (and_lt ha) (and_lt ha), u32_xor_nat _ _ (xor_lt (and_lt ha) (and_lt ha)) (and_lt hb)]; rfl
/-- Behind the schedule. -/
def CMid (w : World) (st wd : List Nat) (p : Value) (W : World) : Prop :=
  ∃ g5, p = .pointer (some ⟨g5, 0, none⟩) ∧ w.heap.size + 1 + 1 < g5 ∧ Arr W w.heap.size 8 30 (us st) ∧ Arr W (w.heap.size + 1 + 1) 8 30 (us (List.replicate 8 0)) ∧ Arr W g5 64 67 (us wd) ∧ Below w.heap.size w W

set_option maxHeartbeats 4000000 in
set_option maxRecDepth 100000 in
theorem compress_aux (st blk Q Z : List Nat) (hst : st.length = 8) (hsa : AllW st) (hl : blk.length = 64) (hb : AllB blk) (w : World) (hk : Kc w) (HQ : Hid (sched blk = Q)) (HZ : Hid (List.zipWith add32 st (rnds Q (St.of st) 64).list = Z)) :
    Calls Tryd.prog 60 #[.agg (us st).toArray, .agg (bs blk).toArray] w fun e w' => e = .returned (.agg (us Z).toArray) ∧ Below w.heap.size w w' := by
  have HQL : Hid (Q.length = 64) := by show Q.length = 64; rw [← HQ.out]; exact sched_len blk
  have HQA : Hid (AllW Q) := by show AllW Q; rw [← HQ.out]; exact sched_all hb
  have HQU : Hid ((us Q).length = 64) := by show (us Q).length = 64; rw [us_len, HQL.out]
  have E64 : Hid ((us Q).toArray.size = 64) := HQU
  have HC : Hid (∀ W, Calls Tryd.prog 73 #[.agg (bs blk).toArray] W fun e w' => e = .returned (.agg (us Q).toArray) ∧ Below W.heap.size W w') := fun W => by rw [← HQ.out]; exact schedule_any blk hl hb W
  clear HQ
  have HL := Lib.hid hl
  have HB := Lib.hid hb
  have HST := Lib.hid hst
  have HSA := Lib.hid hsa
  have HK := Lib.hid hk
  have HLb : Hid ((bs blk).length = 64) := by show (bs blk).length = 64; rw [bs_len, hl]
  have HLs : Hid ((us st).length = 8) := by show (us st).length = 8; rw [us_len, hst]
  clear hl hb hst hsa hk
  go_enter Tryd.func60, Tryd.ntmps60
  go_upto_region 1 with fail
  go_cut [5] (fun p W => CMid w st Q p W)
  case first =>
    obtain ⟨a1, a2, a3, hbw⟩ := three_new w 30 31 30 (us st).toArray (bs blk).toArray #[.int .u32 0, .int .u32 0, .int .u32 0, .int .u32 0, .int .u32 0, .int .u32 0, .int .u32 0, .int .u32 0] _ _ (us (List.replicate 8 0)) 8 64 8 rfl rfl rfl HLs.out HLb.out (by simp [us]) (by decide) (by decide) (by decide)
    have hR := Lib.hid a2.range
    go_wp2_with (first
      | (with_reducible refine wpList_load_mid rfl _ (.tmp 3) rfl (w.heap.size + 1) _ rfl (bs blk) _ hR.out Tryd.underlying31 rfl (by rw [HLb.out]; exact info_block) ?_)
      | (go_at_call 73; refine (HC.out _).mono ?_; rintro e w3 ⟨rfl, hb3⟩)
      | (with_reducible refine wpList_store_new rfl _ (.tmp 5) (.tmp 20) rfl rfl rfl info_words E64.out rfl (all_oneCell_toArray (us_cell _)) ?_; intro w5 hbel5 hrow5 hsz5))
    go_meet
    exact ⟨w3.heap.size, rfl, by have := hb3.size; simp at this; omega, (a1.later hb3).later hbel5, (a3.later hb3).later hbel5, Arr.of_row hrow5 HQU.out (by decide), later (later hbw hb3) hbel5⟩
  case rest =>
    obtain ⟨g5, rfl, hg5, a1, a3, a5, hbw⟩ := hcut
    have gd : ∀ j, j < 8 → st[j]? = some (st.getD j 0) := fun j hj => by
      rw [List.getD_eq_getElem?_getD, List.getElem?_eq_getElem (by have := HST.out; omega)]; rfl
    obtain ⟨S, hS⟩ : ∃ S, St.of st = S := ⟨_, rfl⟩
    have hSo := of_ok HSA.out
    have s0 : wc.cell? ⟨w.heap.size, 0, none⟩ = some (.int .u32 (S.a : Int)) := by rw [← hS]; exact a1.cell (us_get (gd 0 (by decide)))
    have s1 : wc.cell? ⟨w.heap.size, 1, none⟩ = some (.int .u32 (S.b : Int)) := by rw [← hS]; exact a1.cell (us_get (gd 1 (by decide)))
    have s2 : wc.cell? ⟨w.heap.size, 2, none⟩ = some (.int .u32 (S.c : Int)) := by rw [← hS]; exact a1.cell (us_get (gd 2 (by decide)))
    have s3 : wc.cell? ⟨w.heap.size, 3, none⟩ = some (.int .u32 (S.d : Int)) := by rw [← hS]; exact a1.cell (us_get (gd 3 (by decide)))
    have s4 : wc.cell? ⟨w.heap.size, 4, none⟩ = some (.int .u32 (S.e : Int)) := by rw [← hS]; exact a1.cell (us_get (gd 4 (by decide)))
    have s5 : wc.cell? ⟨w.heap.size, 5, none⟩ = some (.int .u32 (S.f : Int)) := by rw [← hS]; exact a1.cell (us_get (gd 5 (by decide)))
    have s6 : wc.cell? ⟨w.heap.size, 6, none⟩ = some (.int .u32 (S.g : Int)) := by rw [← hS]; exact a1.cell (us_get (gd 6 (by decide)))
    have s7 : wc.cell? ⟨w.heap.size, 7, none⟩ = some (.int .u32 (S.h : Int)) := by rw [← hS]; exact a1.cell (us_get (gd 7 (by decide)))
    rw [hS] at hSo
    have HS := Lib.hid hS
    have HA1 := Lib.hid a1
    have HA3 := Lib.hid a3
    have HA5 := Lib.hid a5
    have HGD := Lib.hid gd
    clear hS a1 a3 a5 gd
    go_wp2_with fail
    go_quiet (fail)
    go_wp2_with fail
    clear s0 s1 s2 s3 s4 s5 s6 s7
    go_loopw [6, 7, 8, 9, 10, 11, 12, 13, 37] (fun a b c d e f g h i W => ∃ (t q ra rb rc rd re rf rg rh : Nat), t ≤ 64 ∧ i = .int .i64 (t : Int) ∧ Hid ((⟨ra, rb, rc, rd, re, rf, rg, rh⟩ : St) = rnds Q S t) ∧
        a = .int .u32 (ra : Int) ∧ b = .int .u32 (rb : Int) ∧ c = .int .u32 (rc : Int) ∧ d = .int .u32 (rd : Int) ∧ e = .int .u32 (re : Int) ∧ f = .int .u32 (rf : Int) ∧ g = .int .u32 (rg : Int) ∧ h = .int .u32 (rh : Int) ∧ W = wc.drewN q) (fun _ _ _ _ _ _ _ _ i _ => 64 - (intOf i).toNat)
    case atStart => exact ⟨0, _, S.a, S.b, S.c, S.d, S.e, S.f, S.g, S.h, by omega, rfl, Lib.hid rfl, rfl, rfl, rfl, rfl, rfl, rfl, rfl, rfl, rfl⟩
    case round =>
      obtain ⟨t, q, ra, rb, rc, rd, re, rf, rg, rh, ht, rfl, HR, rfl, rfl, rfl, rfl, rfl, rfl, rfl, rfl, rfl⟩ := hrel
      by_cases hlt : t < 64
      · have hok := rnds_ok Q hSo t
        rw [← HR.out] at hok
        obtain ⟨oa, ob, oc, od, oe, of_, og, oh⟩ := hok
        simp only at oa ob oc od oe of_ og oh
        have hkt : kc[t]? = some (kc.getD t 0) := by rw [List.getD_eq_getElem?_getD, List.getElem?_eq_getElem (by rw [kc_len]; exact hlt)]; rfl
        have hqt : Q[t]? = some (Q.getD t 0) := by rw [List.getD_eq_getElem?_getD, List.getElem?_eq_getElem (by rw [HQL.out]; exact hlt)]; rfl
        have kcell := (hbw.cell (show (1 : Nat) < _ by have := HK.out.1; omega)).trans (HK.out.2 t _ hkt)
        have qcell := HA5.out.cell (us_get hqt)
        have kv := getD_lt kc_all (by decide) t
        have qv := getD_lt HQA.out (by decide) t
        have HN : Hid (rnds Q S (t + 1) = step ⟨ra, rb, rc, rd, re, rf, rg, rh⟩ (kc.getD t 0) (Q.getD t 0)) := by show rnds Q S (t + 1) = _; rw [HR.out]; rfl
        generalize kc.getD t 0 = K at kcell kv HN
        generalize Q.getD t 0 = X at qcell qv HN
        have hti : (t : Int) < 64 := by omega
        have ht0 : (0 : Int) ≤ (t : Int) := by omega
        clear hkt hqt
        go_wp2_with fail
        go_quiet ((go_at_call 74; first | exact quiet_more (rotr6 re _ oe) | exact quiet_more (rotr11 re _ oe) | exact quiet_more (rotr25 re _ oe)))
        go_wp2_with (first
          | (go_at_call 74; ((with_reducible refine (rotr2 ra _ oa).mono ?_); rintro e w1 ⟨rfl, rfl⟩))
          | (go_at_call 74; ((with_reducible refine (rotr13 ra _ oa).mono ?_); rintro e w1 ⟨rfl, rfl⟩))
          | (go_at_call 74; ((with_reducible refine (rotr22 ra _ oa).mono ?_); rintro e w1 ⟨rfl, rfl⟩)))
        go_roundw
        case rel =>
          rw [bg1_bits re oe, chs_bits re rf rg oe of_ og, bg0_bits ra oa, maj_bits ra rb rc oa ob oc]
          refine ⟨t + 1, _, (tx ⟨ra, rb, rc, rd, re, rf, rg, rh⟩ K X + ty ⟨ra, rb, rc, rd, re, rf, rg, rh⟩) % 4294967296, ra, rb, rc, (rd + tx ⟨ra, rb, rc, rd, re, rf, rg, rh⟩ K X) % 4294967296, re, rf, rg, by omega, by go_num, Lib.hid HN.out.symm, congrArg (Value.int .u32) ?_, rfl, rfl, rfl, congrArg (Value.int .u32) ?_, rfl, rfl, rfl, rfl⟩
          · unfold tx ty; dsimp only; omega
          · unfold tx; dsimp only; omega
        case measure => simp [intOf]; omega
      · have ht64 : t = 64 := by omega
        subst ht64
        have hok := rnds_ok Q hSo 64
        rw [← HR.out] at hok
        obtain ⟨oa, ob, oc, od, oe, of_, og, oh⟩ := hok
        simp only at oa ob oc od oe of_ og oh
        have HZ2 : Hid (List.zipWith add32 st [ra, rb, rc, rd, re, rf, rg, rh] = Z) := by
          show List.zipWith add32 st [ra, rb, rc, rd, re, rf, rg, rh] = Z
          rw [← HZ.out, HS.out, ← HR.out]; rfl
        obtain ⟨rl, hrl⟩ : ∃ rl, [ra, rb, rc, rd, re, rf, rg, rh] = rl := ⟨_, rfl⟩
        have hrll : rl.length = 8 := by rw [← hrl]; rfl
        have hra : AllW rl := by
          intro x hx
          rw [← hrl] at hx
          simp only [List.mem_cons, List.not_mem_nil, or_false] at hx
          rcases hx with rfl | rfl | rfl | rfl | rfl | rfl | rfl | rfl <;> assumption
        have HIX : Hid (∀ (k : Nat) (W : World), k < 8 → (Instr.index 30 (.agg #[.int .u32 (ra : Int), .int .u32 (rb : Int), .int .u32 (rc : Int), .int .u32 (rd : Int), .int .u32 (re : Int), .int .u32 (rf : Int), .int .u32 (rg : Int), .int .u32 (rh : Int)]) (.int .i64 (k : Int))).run Tryd.prog W = .ok (.int .u32 ((rl.getD k 0 : Nat) : Int)) W) := fun k W hk => by
          refine run_index_arr (P := Tryd.prog) W 30 29 8 .i64 .u32 _ k _ Tryd.underlying30 Tryd.underlying29 info_u32 hk ?_
          have h1 : rl[k]? = some (rl.getD k 0) := by rw [List.getD_eq_getElem?_getD, List.getElem?_eq_getElem (by omega)]; rfl
          have h2 := us_get h1
          rw [← hrl] at h2 ⊢
          simpa [us, U32] using h2
        rw [hrl] at HZ2
        have HRL := Lib.hid hrll
        have HRA := Lib.hid hra
        clear hrl hrll hra HR
        go_wp2_with fail
        obtain ⟨wo, hwo⟩ : ∃ wo : World, wo = wc.drewN q := ⟨_, rfl⟩
        have b1 : Arr wo w.heap.size 8 30 (us st) := by rw [hwo]; exact HA1.out
        have b3 : Arr wo (w.heap.size + 1 + 1) 8 30 (us (List.replicate 8 0)) := by rw [hwo]; exact HA3.out
        have hbo : Below w.heap.size w wo := by rw [hwo]; exact below_drewN hbw q
        rw [← hwo]
        clear hwo
        go_loopw [109] (fun i W => ∃ k : Nat, k ≤ 8 ∧ i = .int .i64 (k : Int) ∧ Arr W w.heap.size 8 30 (us (zp st rl k)) ∧ Arr W (w.heap.size + 1 + 1) 8 30 (us (List.replicate 8 0)) ∧ Below w.heap.size w W) (fun i _ => 8 - (intOf i).toNat)
        case atStart => exact ⟨0, by omega, rfl, by rw [zp_zero]; exact b1, b3, hbo⟩
        case round =>
          obtain ⟨k, hk, rfl, c1, c3, hbk⟩ := hrel
          by_cases hlt8 : k < 8
          · have hold := c1.cell (us_get (zp_get st rl k HST.out HRL.out hlt8))
            have hfr := c1.free k
            have hix := fun W => HIX.out k W hlt8
            have ho := getD_lt HSA.out (by decide) k
            have hv := getD_lt HRA.out (by decide) k
            have hset := us_set (zp st rl k) k (add32 (st.getD k 0) (rl.getD k 0))
            rw [zp_set st rl k HST.out HRL.out hlt8] at hset
            generalize st.getD k 0 = O at hold ho hset
            generalize rl.getD k 0 = V at hix hv hset
            have HSET := Lib.hid hset
            have HC1 := Lib.hid c1
            have hki : (k : Int) < 8 := by omega
            clear hset c1
            go_wp2_with fail
            go_roundw
            case rel =>
              have e : ((O : Int) + (V : Int)) % 4294967296 = ((add32 O V : Nat) : Int) := by unfold add32; omega
              rw [e]
              exact ⟨k + 1, by omega, by go_num, by rw [← HSET.out]; exact HC1.out.set_ _ _, c3.other (by omega) _, hbk.setCell (Nat.le_refl _) _⟩
            case measure => simp [intOf]; omega
          · have hk8 : k = 8 := by omega
            subst hk8
            rw [zp_all st rl HST.out HRL.out, HZ2.out] at c1
            have HZL : Hid ((us Z).length = 8) := by show (us Z).length = 8; have := c1.1; omega
            have hR := Lib.hid c1.range
            have hth := Lib.hid (show wr.there (w.heap.size + 1 + 1) 0 (us Z).toArray.size from by
              have e8 : (us Z).toArray.size = 8 := HZL.out
              rw [e8]; exact c3.there)
            have hinf : (Tryd.prog.info? 30).map (·.size) = some (us Z).toArray.size := by
              have e8 : (us Z).toArray.size = 8 := HZL.out
              rw [e8]; exact info_state
            clear c1 c3
            go_wp2_with (first
              | (with_reducible refine wpList_load_mid rfl _ (.tmp 2) rfl w.heap.size _ rfl (us Z) _ hR.out Tryd.underlying30 rfl (by rw [HZL.out]; exact info_state) ?_)
              | (with_reducible refine wpList_store_mid rfl _ (.tmp 4) (.tmp 120) rfl (w.heap.size + 1 + 1) 0 _ rfl rfl hth.out hinf (all_oneCell_toArray (us_cell _)) ?_))
            refine bodyPost_ret (results_one rfl _ _ (w.heap.size + 1 + 1) (us Z) _ rfl ?_ Tryd.underlying30 rfl (by rw [HZL.out]; exact info_state)) rfl ⟨rfl, below_setCells _ _ _ hbk (by omega)⟩
            exact World.rangeAt_setCells_same _ _ _ _ (show World.there _ (w.heap.size + 1 + 1) 0 (us Z).length from fun j hj => hth.out j (by simpa using hj))
theorem compress_any (st blk : List Nat) (hst : st.length = 8) (hsa : AllW st) (hl : blk.length = 64) (hb : AllB blk) (w : World) (hk : Kc w) :
    Calls Tryd.prog 60 #[.agg (us st).toArray, .agg (bs blk).toArray] w fun e w' => e = .returned (.agg (us (comp st blk)).toArray) ∧ Below w.heap.size w w' :=
  compress_aux st blk (sched blk) (comp st blk) hst hsa hl hb w hk (Lib.hid rfl) (Lib.hid rfl)
end Go.Proofs.YtbfoajfpnfkfnaaDoor
