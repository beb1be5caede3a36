import Derived.Test.YtbfoajfpnfkfnaaDoorG1
set_option linter.unusedVariables false
namespace Go.Proofs.YtbfoajfpnfkfnaaDoor
open Go.RowKit

theorem word_bits (a b c d : Nat) (ha : a < 256) (hb : b < 256) (hc : c < 256) (hd : d < 256) : bits .or .u32 (bits .or .u32 (bits .or .u32 ((a : Int) * 16777216) ((b : Int) * 65536)) ((c : Int) * 256)) (d : Int) = ((((a * 256 + b) * 256 + c) * 256 + d : Nat) : Int) := by
  have e1 : (a : Int) * 16777216 = ((a * 16777216 : Nat) : Int) := by omega
  have e2 : (b : Int) * 65536 = ((b * 65536 : Nat) : Int) := by omega
  have e3 : (c : Int) * 256 = ((c * 256 : Nat) : Int) := by omega
  rw [e1, e2, e3, u32_or_nat _ _ (by omega) (by omega), nat_join 24 (a * 16777216) (b * 65536) (by omega) (by omega), u32_or_nat _ _ (by omega) (by omega), nat_join 16 (a * 16777216 + b * 65536) (c * 256) (by omega) (by omega), u32_or_nat _ _ (by omega) (by omega), nat_join 8 _ d (by omega) (by omega)]
  exact congrArg (fun n : Nat => (n : Int)) (by omega)
/-- The first words, one after the other. -/
def pre16 (b : List Nat) (k : Nat) : List Nat := (words16 b).take k ++ List.replicate (64 - k) 0
theorem pre16_zero (b : List Nat) : pre16 b 0 = List.replicate 64 0 := rfl
theorem pre16_all (b : List Nat) : pre16 b 16 = gW b 0 := by
  unfold pre16 gW
  rw [List.take_of_length_le (by rw [words16_len]; exact Nat.le_refl _)]; rfl
theorem pre16_old (b : List Nat) (k : Nat) (hk : k < 16) : (pre16 b k)[k]? = some 0 := by
  unfold pre16
  have hl : ((words16 b).take k).length = k := by rw [List.length_take, words16_len]; omega
  rw [List.getElem?_append_right (by omega), hl, Nat.sub_self, List.getElem?_replicate, if_pos (by omega)]
theorem pre16_set (b : List Nat) (k : Nat) (hk : k < 16) : (pre16 b k).set k (word4 b k) = pre16 b (k + 1) := by
  unfold pre16
  have hl : ((words16 b).take k).length = k := by rw [List.length_take, words16_len]; omega
  have hg : (words16 b)[k]'(by rw [words16_len]; exact hk) = word4 b k := by simp [words16]
  rw [List.set_append_right _ _ (by omega), hl, Nat.sub_self, show 64 - k = (64 - (k + 1)) + 1 by omega, List.replicate_succ, List.set_cons_zero, List.take_succ_eq_append_getElem (by rw [words16_len]; exact hk), hg]
  simp

theorem duo_new (w : World) (e1 e2 : TypeId) (c1 c2 : Array Value) (xs1 xs2 : List Value) (n1 n2 : Nat) (h1 : c1.toList = xs1) (h2 : c2.toList = xs2) (l1 : xs1.length = n1) (l2 : xs2.length = n2) (m1 : n1 ≤ 1000) (m2 : n2 ≤ 1000) :
    Arr ((w.alloc (.cells c1 e1)).alloc (.cells c2 e2)) w.heap.size n1 e1 xs1 ∧ Arr ((w.alloc (.cells c1 e1)).alloc (.cells c2 e2)) (w.heap.size + 1) n2 e2 xs2 ∧ Below w.heap.size w ((w.alloc (.cells c1 e1)).alloc (.cells c2 e2)) := by
  have s1 : (w.alloc (.cells c1 e1)).heap.size = w.heap.size + 1 := by simp
  have a1 := Arr.new' w e1 c1 n1 xs1 h1 l1 m1
  have a2 := Arr.new' (w.alloc (.cells c1 e1)) e2 c2 n2 xs2 h2 l2 m2
  rw [s1] at a2
  have b2 := new_later (w.alloc (.cells c1 e1)) (.cells c2 e2)
  exact ⟨a1.later b2, a2, later (new_later w _) b2⟩

set_option maxHeartbeats 4000000 in
set_option maxRecDepth 100000 in
theorem rwords_aux (b o cap : Nat) (blk Q : List Nat) (hl : blk.length = 64) (hb : AllB blk) (w : World) (hbB : b < w.heap.size) (hcap : 64 ≤ cap) (hc : ∀ j u, (bs blk)[j]? = some u → w.cell? ⟨b, o + j, none⟩ = some u) (HQ : Hid (gW blk 48 = Q)) (HQl : Hid (Q.length = 64)) :
    Calls Tryd.prog 38 #[.slice (some ⟨b, o, none⟩) 64 cap] w fun e w' => e = .returned (.agg (us Q).toArray) ∧ Below w.heap.size w w' := by
  have HL := Lib.hid hl
  have HB := Lib.hid hb
  have HC := Lib.hid hc
  clear hl hb hc
  go_enter Tryd.func38, Tryd.ntmps38
  go_upto_region 1 with fail
  go_cut [3] (fun r wx => r = .pointer (some ⟨w.heap.size + 1, 0, none⟩) ∧ Arr wx w.heap.size 64 67 (us (List.replicate 64 0)) ∧ Arr wx (w.heap.size + 1) 64 67 (us (List.replicate 64 0)) ∧ Below w.heap.size w wx)
  case first =>
    go_wp2_with fail
    go_meet
    exact ⟨rfl, duo_new w _ _ _ _ _ _ _ _ rfl rfl (by simp [us]) (by simp [us]) (by decide) (by decide)⟩
  case rest =>
    obtain ⟨rfl, a2, a3, hbw⟩ := hcut
    go_wp2_with fail
    go_loopw [4] (fun i W => ∃ k : Nat, k ≤ 16 ∧ i = .int .i64 (k : Int) ∧ Arr W (w.heap.size + 1) 64 67 (us (pre16 blk k)) ∧ Below (w.heap.size + 1) wc W) (fun i _ => 16 - (intOf i).toNat)
    case atStart => exact ⟨0, by omega, rfl, by rw [pre16_zero]; exact a3, Below.refl _ _⟩
    case round =>
      obtain ⟨k, hk, rfl, ha, hbel⟩ := hrel
      by_cases hlt : k < 16
      · have hL := HL.out
        have gc : ∀ j, j < 64 → wr.cell? ⟨b, o + j, none⟩ = some (.int .u8 ((blk.getD j 0 : Nat) : Int)) := fun j hj => by
          rw [hbel.cell (show b < _ by omega), hbw.cell hbB]
          have := bs_get blk j (by omega)
          rw [List.getD_eq_getElem?_getD]
          exact HC.out j _ this
        have hset := us_set (pre16 blk k) k (word4 blk k)
        rw [pre16_set blk k hlt] at hset
        have hw4 : word4 blk k = ((blk.getD (4 * k) 0 * 256 + blk.getD (4 * k + 1) 0) * 256 + blk.getD (4 * k + 2) 0) * 256 + blk.getD (4 * k + 3) 0 := rfl
        have hold := ha.cell (us_get (pre16_old blk k hlt))
        have hfr := ha.free k
        obtain ⟨U, hU⟩ : ∃ U : Nat, 4 * k = U := ⟨_, rfl⟩
        rw [hU] at hw4
        have hU4 : (4 : Int) * (k : Int) = (U : Int) := by omega
        have hUl : U < 61 := by omega
        have g0 := gc U (by omega)
        have g1 := gc (U + 1) (by omega)
        have g2 := gc (U + 2) (by omega)
        have g3 := gc (U + 3) (by omega)
        have l0 := getD_lt HB.out (by decide) U
        have l1 := getD_lt HB.out (by decide) (U + 1)
        have l2 := getD_lt HB.out (by decide) (U + 2)
        have l3 := getD_lt HB.out (by decide) (U + 3)
        generalize blk.getD U 0 = X0 at g0 l0 hw4
        generalize blk.getD (U + 1) 0 = X1 at g1 l1 hw4
        generalize blk.getD (U + 2) 0 = X2 at g2 l2 hw4
        generalize blk.getD (U + 3) 0 = X3 at g3 l3 hw4
        have hor := word_bits X0 X1 X2 X3 l0 l1 l2 l3
        rw [← hw4] at hor
        have HSET := Lib.hid hset
        have HA := Lib.hid ha
        have n1 : ((U : Int) + 1).toNat = U + 1 := by omega
        have n2 : ((U : Int) + 2).toNat = U + 2 := by omega
        have n3 : ((U : Int) + 3).toNat = U + 3 := by omega
        have m0 : (U : Int) < 64 := by omega
        have m1 : (U : Int) + 1 < 64 := by omega
        have m2 : (U : Int) + 2 < 64 := by omega
        have m3 : (U : Int) + 3 < 64 := by omega
        have p0 : (0 : Int) ≤ (U : Int) := by omega
        have p1 : (0 : Int) ≤ (U : Int) + 1 := by omega
        have p2 : (0 : Int) ≤ (U : Int) + 2 := by omega
        have p3 : (0 : Int) ≤ (U : Int) + 3 := by omega
        have hki : (k : Int) < 16 := by omega
        have hkj : (k : Int) < 64 := by omega
        have hk0 : (0 : Int) ≤ (k : Int) := by omega
        clear hset ha hw4 gc hU hL
        go_wp2_with fail
        go_region
        all_goals (clear n1 n2 n3 m0 m1 m2 m3 p0 p1 p2 p3; go_wp2_with fail)
        go_roundw
        case rel => exact ⟨k + 1, by omega, by go_num, by rw [← HSET.out]; exact (show Arr (wr.drewN _) _ _ _ _ from HA.out).set_ _ _, (below_drewN hbel _).setCell (Nat.le_refl _) _⟩
        case measure => simp [intOf]; omega
      · have hk64 : k = 16 := by omega
        subst hk64
        rw [pre16_all] at ha
        clear a3 hlt hk
        obtain ⟨wo, rfl⟩ : ∃ wo : World, wo = wr := ⟨_, rfl⟩
        go_wp2_with fail
        go_loopw [5] (fun i W => ∃ n : Nat, n ≤ 48 ∧ i = .int .i64 ((16 + n : Nat) : Int) ∧ Arr W (w.heap.size + 1) 64 67 (us (gW blk n)) ∧ Below (w.heap.size + 1) wc W) (fun i _ => 64 - (intOf i).toNat)
        case atStart => exact ⟨0, by omega, rfl, ha, hbel⟩
        case round =>
          obtain ⟨n, hn, rfl, ha, hbel⟩ := hrel
          by_cases hlt : n < 48
          · obtain ⟨T, hT⟩ : ∃ T : Nat, 16 + n = T := ⟨_, rfl⟩
            rw [hT]
            have c15 := ha.cell (us_get (gW_get blk n (T - 15) (by omega)))
            have c2 := ha.cell (us_get (gW_get blk n (T - 2) (by omega)))
            have c16 := ha.cell (us_get (gW_get blk n (T - 16) (by omega)))
            have c7 := ha.cell (us_get (gW_get blk n (T - 7) (by omega)))
            obtain ⟨x0, hx0⟩ := gW_any blk n T (by omega) hn
            have cT := ha.cell (us_get hx0)
            have hfr := ha.free T
            have hgw := grow_all n (words16_all HB.out)
            have v15 := getD_lt hgw (by decide) (T - 15)
            have v2 := getD_lt hgw (by decide) (T - 2)
            have v16 := getD_lt hgw (by decide) (T - 16)
            have v7 := getD_lt hgw (by decide) (T - 7)
            have hset := us_set (gW blk n) T (nextW (grow n (words16 blk)) T)
            rw [← hT, gW_set blk n hlt, hT] at hset
            have hnx : nextW (grow n (words16 blk)) T = ((((grow n (words16 blk)).getD (T - 16) 0 + sg0 ((grow n (words16 blk)).getD (T - 15) 0)) % 4294967296 + (grow n (words16 blk)).getD (T - 7) 0) % 4294967296 + sg1 ((grow n (words16 blk)).getD (T - 2) 0)) % 4294967296 := rfl
            generalize (grow n (words16 blk)).getD (T - 15) 0 = X15 at c15 v15 hnx
            generalize (grow n (words16 blk)).getD (T - 2) 0 = X2 at c2 v2 hnx
            generalize (grow n (words16 blk)).getD (T - 16) 0 = X16 at c16 v16 hnx
            generalize (grow n (words16 blk)).getD (T - 7) 0 = X7 at c7 v7 hnx
            have HSET := Lib.hid hset
            have HNX := Lib.hid hnx
            have HA := Lib.hid ha
            have HT := Lib.hid hT
            have t1 : 16 ≤ T := by omega
            have t2 : T < 64 := by omega
            have t3 : (T : Int) < 64 := by omega
            clear hset hnx ha hT hx0 hgw
            have w15 : IntKind.i64.wrap ((T : Int) - 15) = (T : Int) - 15 := IntWalk.i64_in _ (by omega)
            have z15 : (0 : Int) ≤ (T : Int) - 15 := by omega
            have n15 : ((T : Int) - 15).toNat = T - 15 := by omega
            have q15 : (T : Int) - 15 < 64 := by omega
            have w2 : IntKind.i64.wrap ((T : Int) - 2) = (T : Int) - 2 := IntWalk.i64_in _ (by omega)
            have z2 : (0 : Int) ≤ (T : Int) - 2 := by omega
            have n2 : ((T : Int) - 2).toNat = T - 2 := by omega
            have q2 : (T : Int) - 2 < 64 := by omega
            have w16 : IntKind.i64.wrap ((T : Int) - 16) = (T : Int) - 16 := IntWalk.i64_in _ (by omega)
            have z16 : (0 : Int) ≤ (T : Int) - 16 := by omega
            have n16 : ((T : Int) - 16).toNat = T - 16 := by omega
            have q16 : (T : Int) - 16 < 64 := by omega
            have w7 : IntKind.i64.wrap ((T : Int) - 7) = (T : Int) - 7 := IntWalk.i64_in _ (by omega)
            have z7 : (0 : Int) ≤ (T : Int) - 7 := by omega
            have n7 : ((T : Int) - 7).toNat = T - 7 := by omega
            have q7 : (T : Int) - 7 < 64 := by omega
            have z0 : (0 : Int) ≤ (T : Int) := by omega
            go_wp2_with fail
            go_quiet ((go_at_call 39; first | with_reducible exact Calls.quiet_of (ref_rotr7 X15 _ v15) | with_reducible exact Calls.quiet_of (ref_rotr18 X15 _ v15)))
            go_wp2_with fail
            go_quiet ((go_at_call 39; first | with_reducible exact quiet_more2 (ref_rotr17 X2 _ v2) | with_reducible exact quiet_more2 (ref_rotr19 X2 _ v2)))
            go_wp2_with fail
            go_region
            all_goals (clear w15 z15 n15 q15 w2 z2 n2 q2 w16 z16 n16 q16 w7 z7 n7 q7; go_wp2_with fail)
            go_roundw
            case rel =>
              rw [sg0_bits X15 v15, sg1_bits X2 v2]
              have e : ((X16 : Int) + ((sg0 X15 : Nat) : Int) + (X7 : Int) + ((sg1 X2 : Nat) : Int)) % 4294967296 = ((nextW (grow n (words16 blk)) T : Nat) : Int) := by rw [HNX.out]; omega
              rw [e]
              refine ⟨n + 1, by omega, congrArg (Value.int .i64) (by have := HT.out; omega), ?_, (below_drewN hbel _).setCell (Nat.le_refl _) _⟩
              rw [← HSET.out]
              exact (show Arr (wr.drewN _) _ _ _ _ from HA.out).set_ T _
            case measure => simp [intOf]; omega
          · have hn48 : n = 48 := by omega
            subst hn48
            rw [HQ.out] at ha
            have hR := Lib.hid ha.range
            have HLs : Hid ((us Q).length = 64) := (by show (us Q).length = 64; rw [us_len, HQl.out])
            have e64 : (us Q).toArray.size = 64 := HLs.out
            have hth := Lib.hid (show wr.there (w.heap.size) 0 (us Q).toArray.size from by
              rw [e64]
              exact (a2.below hbel (by omega)).there)
            have hinf : (Tryd.prog.info? 67).map (·.size) = some (us Q).toArray.size := by rw [e64]; exact info_words
            clear e64
            have hb2 := hbw.trans (hbel.mono (by omega : w.heap.size ≤ w.heap.size + 1))
            clear ha hbel a2
            go_wp2_with (first
              | (with_reducible refine wpList_load_mid rfl _ (.tmp 3) rfl (w.heap.size + 1) _ rfl (us Q) _ hR.out Tryd.underlying67 rfl (by rw [HLs.out]; exact info_words) ?_)
              | (with_reducible refine wpList_store_mid rfl _ (.tmp 2) (.tmp 100) rfl (w.heap.size) 0 _ rfl rfl hth.out hinf (all_oneCell_toArray (us_cell _)) ?_))
            refine bodyPost_ret (results_one rfl _ _ (w.heap.size) (us Q) _ rfl ?_ Tryd.underlying67 rfl (by rw [HLs.out]; exact info_words)) rfl ⟨rfl, below_setCells _ _ _ hb2 (by omega)⟩
            exact World.rangeAt_setCells_same _ _ _ _ (show World.there _ (w.heap.size) 0 (us Q).length from fun j hj => hth.out j (by simpa using hj))
theorem rwords_any (b o cap : Nat) (blk : List Nat) (hl : blk.length = 64) (hb : AllB blk) (w : World) (hbB : b < w.heap.size) (hcap : 64 ≤ cap) (hc : ∀ j u, (bs blk)[j]? = some u → w.cell? ⟨b, o + j, none⟩ = some u) :
    Calls Tryd.prog 38 #[.slice (some ⟨b, o, none⟩) 64 cap] w fun e w' => e = .returned (.agg (us (sched blk)).toArray) ∧ Below w.heap.size w w' :=
  rwords_aux b o cap blk (sched blk) hl hb w hbB hcap hc (Lib.hid (gW_all blk)) (Lib.hid (sched_len blk))
end Go.Proofs.YtbfoajfpnfkfnaaDoor
