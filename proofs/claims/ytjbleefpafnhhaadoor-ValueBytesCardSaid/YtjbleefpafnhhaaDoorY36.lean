import Derived.Test.YtjbleefpafnhhaaDoorY03
import Derived.Test.YtjbleefpafnhhaaDoorY35
import Derived.Deep.DeepCutAuto
import Derived.StillTailTactics
set_option linter.unusedVariables false
namespace Go.Proofs.YtjbleefpafnhhaaDoor
open Go.RowKit
def U32 (x : Nat) : Value := .int .u32 (x : Int)
def us (l : List Nat) : List Value := l.map U32
theorem us_len (l : List Nat) : (us l).length = l.length := by simp [us]
theorem us_get {l : List Nat} {j x : Nat} (h : l[j]? = some x) : (us l)[j]? = some (.int .u32 (x : Int)) := by
  simp [us, U32, List.getElem?_map, h]
theorem us_set (l : List Nat) (j x : Nat) : (us l).set j (.int .u32 (x : Int)) = us (l.set j x) := by
  simp [us, U32, List.map_set]
theorem us_cell (l : List Nat) : ∀ u ∈ us l, u.oneCell' = true := by
  intro u hu
  simp only [us, List.mem_map] at hu
  obtain ⟨x, _, rfl⟩ := hu
  rfl
theorem shl_or32 (m d : Nat) (D : Int) (hD : D = (d : Int)) (hm : m < 16777216) (hd : d < 256) : bits .or .u32 ((m : Int) * 256) D = ((m * 256 + d : Nat) : Int) := by
  subst hD
  have e : (m : Int) * 256 = ((m * 256 : Nat) : Int) := by omega
  rw [e, u32_or_nat _ _ (by omega) (by omega), nat_join 8 (m * 256) d (by omega) (by omega)]
theorem info_u32 : (Tryd.prog.info? 116).map (·.size) = some 1 := by kernel_rfl
theorem info_u8s : (Tryd.prog.info? 5).map (·.size) = some 1 := by kernel_rfl
theorem quiet_same {P : Program} {f : FuncId} {args : Array Value} {w : World} {n : Nat} {v : Value}
    (h : Calls P f args (w.drewN n) fun e w' => e = .returned v ∧ w.drewN n = w') : Calls P f args (w.drewN n) fun e w'' => e = .returned v ∧ ∃ m, w'' = w.drewN m :=
  Calls.quiet_of_same (h.mono fun _ _ ⟨he, hw⟩ => ⟨he, hw.symm⟩)
theorem quiet_more {P : Program} {f : FuncId} {args : Array Value} {w : World} {a n : Nat} {v : Value}
    (h : Calls P f args (w.drewN (a + n)) fun e w' => e = .returned v ∧ w.drewN (a + n) = w') :
    Calls P f args (w.drewN (a + n)) fun e w'' => e = .returned v ∧ ∃ m, w'' = w.drewN (a + m) :=
  h.mono fun _ _ ⟨he, hm⟩ => ⟨he, n, hm.symm⟩
theorem sg0_bits (x : Nat) (hx : x < 4294967296) : bits BinOp.xor IntKind.u32 (bits BinOp.xor IntKind.u32 ((rr x 7 : Nat) : Int) ((rr x 18 : Nat) : Int)) ((x : Int) / 8) = ((sg0 x : Nat) : Int) := by
  have e : (x : Int) / 8 = ((x / 8 : Nat) : Int) := by simp
  have h7 := rr_lt x 7 hx (by decide)
  have h18 := rr_lt x 18 hx (by decide)
  rw [e, u32_xor_nat _ _ h7 h18, u32_xor_nat _ _ (xor_lt h7 h18) (by omega)]; rfl
theorem sg1_bits (x : Nat) (hx : x < 4294967296) : bits BinOp.xor IntKind.u32 (bits BinOp.xor IntKind.u32 ((rr x 17 : Nat) : Int) ((rr x 19 : Nat) : Int)) ((x : Int) / 1024) = ((sg1 x : Nat) : Int) := by
  have e : (x : Int) / 1024 = ((x / 1024 : Nat) : Int) := by simp
  have h7 := rr_lt x 17 hx (by decide)
  have h18 := rr_lt x 19 hx (by decide)
  rw [e, u32_xor_nat _ _ h7 h18, u32_xor_nat _ _ (xor_lt h7 h18) (by omega)]; rfl
theorem info_block : (Tryd.prog.info? 118).map (·.size) = some 64 := by kernel_rfl
theorem info_words : (Tryd.prog.info? 140).map (·.size) = some 64 := by kernel_rfl
theorem info_state : (Tryd.prog.info? 117).map (·.size) = some 8 := by kernel_rfl
theorem hresults_one {P : Program} {fn : Func} {p : Tmp} {ty : TypeId} (h : fn.results = #[.cell p ty]) (tmps : Array Value) (w : World) (g : Nat) (cs : List Value) (d : TypeDesc)
    (hp : tmps.getD p undef = .pointer (some ⟨g, 0, none⟩)) (hg : w.rangeAt g 0 cs)
    (hu : P.underlying ty = some d) (hd : d.isRow = true) (hi : (P.info? ty).map (·.size) = some cs.length) :
    (results fn tmps).run P w = .ok (.agg cs.toArray) w := by
  have hp' : tmps[p]?.getD undef = .pointer (some ⟨g, 0, none⟩) := by simpa using hp
  simp [results, h, hp', asAddr, run_loadVar_mid w g 0 ty cs d hg hu hd hi]
theorem three_new (w : World) (e1 e2 e3 : TypeId) (c1 c2 c3 : Array Value) (xs1 xs2 xs3 : List Value) (n1 n2 n3 : Nat) (h1 : c1.toList = xs1) (h2 : c2.toList = xs2) (h3 : c3.toList = xs3) (l1 : xs1.length = n1) (l2 : xs2.length = n2) (l3 : xs3.length = n3) (m1 : n1 ≤ 1000) (m2 : n2 ≤ 1000) (m3 : n3 ≤ 1000) :
    Arr (((w.alloc (.cells c1 e1)).alloc (.cells c2 e2)).alloc (.cells c3 e3)) w.heap.size n1 e1 xs1 ∧ Arr (((w.alloc (.cells c1 e1)).alloc (.cells c2 e2)).alloc (.cells c3 e3)) (w.heap.size + 1) n2 e2 xs2 ∧
    Arr (((w.alloc (.cells c1 e1)).alloc (.cells c2 e2)).alloc (.cells c3 e3)) (w.heap.size + 1 + 1) n3 e3 xs3 ∧ Below w.heap.size w (((w.alloc (.cells c1 e1)).alloc (.cells c2 e2)).alloc (.cells c3 e3)) := by
  have s1 : (w.alloc (.cells c1 e1)).heap.size = w.heap.size + 1 := by simp
  have s2 : ((w.alloc (.cells c1 e1)).alloc (.cells c2 e2)).heap.size = w.heap.size + 1 + 1 := by simp
  have a1 := Arr.new' w e1 c1 n1 xs1 h1 l1 m1
  have a2 := Arr.new' (w.alloc (.cells c1 e1)) e2 c2 n2 xs2 h2 l2 m2
  have a3 := Arr.new' ((w.alloc (.cells c1 e1)).alloc (.cells c2 e2)) e3 c3 n3 xs3 h3 l3 m3
  rw [s1] at a2
  rw [s2] at a3
  have b2 := new_later (w.alloc (.cells c1 e1)) (.cells c2 e2)
  have b3 := new_later ((w.alloc (.cells c1 e1)).alloc (.cells c2 e2)) (.cells c3 e3)
  exact ⟨(a1.later b2).later b3, a2.later b3, a3, later (later (new_later w _) b2) b3⟩
set_option maxHeartbeats 4000000 in
set_option maxRecDepth 100000 in
theorem schedule_aux (blk Q : List Nat) (hl : blk.length = 64) (hb : AllB blk) (w : World) (HQ : Hid (gW blk 48 = Q)) (HQl : Hid (Q.length = 64)) :
    Calls Tryd.prog 94 #[.agg (bs blk).toArray] w fun e w' => e = .returned (.agg (us Q).toArray) ∧ Below w.heap.size w w' := by
  have HL := Lib.hid hl
  have HB := Lib.hid hb
  have HLb : Hid ((bs blk).length = 64) := by show (bs blk).length = 64; rw [bs_len, hl]
  clear hl hb
  go_enter Tryd.func94, Tryd.ntmps94
  go_upto_region 1 with fail
  go_cut [3] (fun r wx => r = .pointer (some ⟨w.heap.size + 1 + 1, 0, none⟩) ∧ Arr wx w.heap.size 64 118 (bs blk) ∧ Arr wx (w.heap.size + 1) 64 140 (us (List.replicate 64 0)) ∧ Arr wx (w.heap.size + 1 + 1) 64 140 (us (List.replicate 64 0)) ∧ Below w.heap.size w wx)
  case first =>
    go_wp2_with fail
    go_meet
    exact ⟨rfl, three_new w _ _ _ _ _ _ _ _ _ _ _ _ rfl rfl rfl HLb.out (by simp [us]) (by simp [us]) (by decide) (by decide) (by decide)⟩
  case rest =>
    obtain ⟨rfl, a1, a2, a3, hbw⟩ := hcut
    have hR := Lib.hid a1.range
    go_wp2_with (with_reducible refine wpList_load_mid rfl _ (.tmp 1) rfl w.heap.size _ rfl (bs blk) _ hR.out Tryd.underlying118 rfl (by rw [HLb.out]; exact info_block) ?_)
    go_loopw [10] (fun i W => ∃ k : Nat, k ≤ 64 ∧ i = .int .i64 (k : Int) ∧ Arr W (w.heap.size + 1 + 1) 64 140 (us (packW blk k)) ∧ Below (w.heap.size + 1 + 1) wc W) (fun i _ => 64 - (intOf i).toNat)
    case atStart => exact ⟨0, by omega, rfl, by rw [packW_zero]; exact a3, Below.refl _ _⟩
    case round =>
      obtain ⟨k, hk, rfl, ha, hbel⟩ := hrel
      by_cases hlt : k < 64
      · have hkl : k < blk.length := by have := HL.out; omega
        have hbk : (bs blk).toArray[k]? = some (.int .u8 (blk.getD k 0 : Nat)) := by
          have := bs_get blk k hkl
          rw [List.getD_eq_getElem?_getD]; simpa using this
        have hix := fun W => run_index_arr (P := Tryd.prog) W 118 5 64 .i64 .u8 (bs blk).toArray k _ Tryd.underlying118 Tryd.underlying5 info_u8s hlt hbk
        have hold := ha.cell (us_get (packW_old blk k hlt))
        have hfr := ha.free (k / 4)
        have hv := getD_lt HB.out (by decide) k
        have ho := pw_lt3 HB.out (k / 4) (k % 4) (by omega)
        have hset := us_set (packW blk k) (k / 4) (pw blk (k / 4) (k % 4) * 256 + blk.getD k 0)
        rw [packW_set blk k hlt] at hset
        have HSET := Lib.hid hset
        have HA := Lib.hid ha
        clear hbk hset ha
        generalize blk.getD k 0 = X at hix hv HSET
        generalize pw blk (k / 4) (k % 4) = O at hold ho HSET
        have hor := shl_or32 O X _ rfl ho hv
        obtain ⟨N, hN⟩ : ∃ N : Nat, O * 256 + X = N := ⟨_, rfl⟩
        rw [hN] at hor HSET
        clear hN
        have hki : (k : Int) < 64 := by omega
        go_wp2_with fail
        go_roundw
        case rel => exact ⟨k + 1, by omega, by go_num, by rw [← HSET.out]; exact HA.out.set_ _ _, hbel.setCell (Nat.le_refl _) _⟩
        case measure => simp [intOf]; omega
      · have hk64 : k = 64 := by omega
        subst hk64
        rw [← gW_zero] at ha
        clear hR a1 a3 hlt hk
        obtain ⟨wo, rfl⟩ : ∃ wo : World, wo = wr := ⟨_, rfl⟩
        go_wp2_with fail
        go_loopw [6] (fun i W => ∃ n : Nat, n ≤ 48 ∧ i = .int .i64 ((16 + n : Nat) : Int) ∧ Arr W (w.heap.size + 1 + 1) 64 140 (us (gW blk n)) ∧ Below (w.heap.size + 1 + 1) wc W) (fun i _ => 64 - (intOf i).toNat)
        case atStart => exact ⟨0, by omega, rfl, ha, hbel⟩
        case round =>
          obtain ⟨n, hn, rfl, ha, hbel⟩ := hrel
          by_cases hlt : n < 48
          · obtain ⟨T, hT⟩ : ∃ T : Nat, 16 + n = T := ⟨_, rfl⟩
            rw [hT]
            have c15 := ha.cell (us_get (gW_get blk n (T - 15) (by omega)))
            have c2 := ha.cell (us_get (gW_get blk n (T - 2) (by omega)))
            have c16 := ha.cell (us_get (gW_get blk n (T - 16) (by omega)))
            have c7 := ha.cell (us_get (gW_get blk n (T - 7) (by omega)))
            obtain ⟨x0, hx0⟩ := gW_any blk n T (by omega) hn
            have cT := ha.cell (us_get hx0)
            have hfr := ha.free T
            have hgw := grow_all n (words16_all HB.out)
            have v15 := getD_lt hgw (by decide) (T - 15)
            have v2 := getD_lt hgw (by decide) (T - 2)
            have v16 := getD_lt hgw (by decide) (T - 16)
            have v7 := getD_lt hgw (by decide) (T - 7)
            have hset := us_set (gW blk n) T (nextW (grow n (words16 blk)) T)
            rw [← hT, gW_set blk n hlt, hT] at hset
            have hnx : nextW (grow n (words16 blk)) T = ((((grow n (words16 blk)).getD (T - 16) 0 + sg0 ((grow n (words16 blk)).getD (T - 15) 0)) % 4294967296 + (grow n (words16 blk)).getD (T - 7) 0) % 4294967296 + sg1 ((grow n (words16 blk)).getD (T - 2) 0)) % 4294967296 := rfl
            generalize (grow n (words16 blk)).getD (T - 15) 0 = X15 at c15 v15 hnx
            generalize (grow n (words16 blk)).getD (T - 2) 0 = X2 at c2 v2 hnx
            generalize (grow n (words16 blk)).getD (T - 16) 0 = X16 at c16 v16 hnx
            generalize (grow n (words16 blk)).getD (T - 7) 0 = X7 at c7 v7 hnx
            have HSET := Lib.hid hset
            have HNX := Lib.hid hnx
            have HA := Lib.hid ha
            have HT := Lib.hid hT
            have t1 : 16 ≤ T := by omega
            have t2 : T < 64 := by omega
            have t3 : (T : Int) < 64 := by omega
            clear hset hnx ha hT hx0 hgw
            have w15 : IntKind.i64.wrap ((T : Int) - 15) = (T : Int) - 15 := IntWalk.i64_in _ (by omega)
            have z15 : (0 : Int) ≤ (T : Int) - 15 := by omega
            have n15 : ((T : Int) - 15).toNat = T - 15 := by omega
            have q15 : (T : Int) - 15 < 64 := by omega
            have w2 : IntKind.i64.wrap ((T : Int) - 2) = (T : Int) - 2 := IntWalk.i64_in _ (by omega)
            have z2 : (0 : Int) ≤ (T : Int) - 2 := by omega
            have n2 : ((T : Int) - 2).toNat = T - 2 := by omega
            have q2 : (T : Int) - 2 < 64 := by omega
            have w16 : IntKind.i64.wrap ((T : Int) - 16) = (T : Int) - 16 := IntWalk.i64_in _ (by omega)
            have z16 : (0 : Int) ≤ (T : Int) - 16 := by omega
            have n16 : ((T : Int) - 16).toNat = T - 16 := by omega
            have q16 : (T : Int) - 16 < 64 := by omega
            have w7 : IntKind.i64.wrap ((T : Int) - 7) = (T : Int) - 7 := IntWalk.i64_in _ (by omega)
            have z7 : (0 : Int) ≤ (T : Int) - 7 := by omega
            have n7 : ((T : Int) - 7).toNat = T - 7 := by omega
            have q7 : (T : Int) - 7 < 64 := by omega
            have z0 : (0 : Int) ≤ (T : Int) := by omega
            go_wp2_with fail
            go_quiet ((go_at_call 95; first | exact quiet_same (rotr7 X15 _ v15) | exact quiet_same (rotr18 X15 _ v15)))
            go_wp2_with fail
            go_quiet ((go_at_call 95; first | exact quiet_more (rotr17 X2 _ v2) | exact quiet_more (rotr19 X2 _ v2)))
            go_wp2_with fail
            go_region
            all_goals (clear w15 z15 n15 q15 w2 z2 n2 q2 w16 z16 n16 q16 w7 z7 n7 q7; go_wp2_with fail)
            go_roundw
            case rel =>
              rw [sg0_bits X15 v15, sg1_bits X2 v2]
              have e : ((X16 : Int) + ((sg0 X15 : Nat) : Int) + (X7 : Int) + ((sg1 X2 : Nat) : Int)) % 4294967296 = ((nextW (grow n (words16 blk)) T : Nat) : Int) := by rw [HNX.out]; omega
              rw [e]
              refine ⟨n + 1, by omega, congrArg (Value.int .i64) (by have := HT.out; omega), ?_, (below_drewN hbel _).setCell (Nat.le_refl _) _⟩
              rw [← HSET.out]
              exact (show Arr (wr.drewN _) _ _ _ _ from HA.out).set_ T _
            case measure => simp [intOf]; omega
          · have hn48 : n = 48 := by omega
            subst hn48
            rw [HQ.out] at ha
            have hR := Lib.hid ha.range
            have HLs : Hid ((us Q).length = 64) := (by show (us Q).length = 64; rw [us_len, HQl.out])
            have e64 : (us Q).toArray.size = 64 := HLs.out
            have hth := Lib.hid (show wr.there (w.heap.size + 1) 0 (us Q).toArray.size from by
              rw [e64]
              exact (a2.below hbel (by omega)).there)
            have hinf : (Tryd.prog.info? 140).map (·.size) = some (us Q).toArray.size := by rw [e64]; exact info_words
            clear e64
            have hb2 := hbw.trans (hbel.mono (by omega : w.heap.size ≤ w.heap.size + 1 + 1))
            clear ha hbel a2
            go_wp2_with (first
              | (with_reducible refine wpList_load_mid rfl _ (.tmp 3) rfl (w.heap.size + 1 + 1) _ rfl (us Q) _ hR.out Tryd.underlying140 rfl (by rw [HLs.out]; exact info_words) ?_)
              | (with_reducible refine wpList_store_mid rfl _ (.tmp 2) (.tmp 79) rfl (w.heap.size + 1) 0 _ rfl rfl hth.out hinf (all_oneCell_toArray (us_cell _)) ?_))
            refine bodyPost_ret (hresults_one rfl _ _ (w.heap.size + 1) (us Q) _ rfl ?_ Tryd.underlying140 rfl (by rw [HLs.out]; exact info_words)) rfl ⟨rfl, below_setCells _ _ _ hb2 (by omega)⟩
            exact World.rangeAt_setCells_same _ _ _ _ (show World.there _ (w.heap.size + 1) 0 (us Q).length from fun j hj => hth.out j (by simpa using hj))
theorem schedule_any (blk : List Nat) (hl : blk.length = 64) (hb : AllB blk) (w : World) :
    Calls Tryd.prog 94 #[.agg (bs blk).toArray] w fun e w' => e = .returned (.agg (us (sched blk)).toArray) ∧ Below w.heap.size w w' :=
  schedule_aux blk (sched blk) hl hb w (Lib.hid (gW_all blk)) (Lib.hid (sched_len blk))
end Go.Proofs.YtjbleefpafnhhaaDoor

namespace Go.Proofs.YtjbleefpafnhhaaDoor
def zp (s r : List Nat) (i : Nat) : List Nat := (List.zipWith add32 s r).take i ++ s.drop i
theorem zp_zero (s r : List Nat) : zp s r 0 = s := by simp [zp]
theorem zp_get (s r : List Nat) (i : Nat) (hs : s.length = 8) (hr : r.length = 8) (hi : i < 8) : (zp s r i)[i]? = some (s.getD i 0) := by
  have hl : ((List.zipWith add32 s r).take i).length = i := by rw [List.length_take, List.length_zipWith]; omega
  unfold zp
  rw [List.getElem?_append_right (by omega), hl, Nat.sub_self, List.getElem?_drop, Nat.add_zero, List.getD_eq_getElem?_getD, List.getElem?_eq_getElem (by omega)]
  rfl
theorem zp_set (s r : List Nat) (i : Nat) (hs : s.length = 8) (hr : r.length = 8) (hi : i < 8) : (zp s r i).set i (add32 (s.getD i 0) (r.getD i 0)) = zp s r (i + 1) := by
  have hl : ((List.zipWith add32 s r).take i).length = i := by rw [List.length_take, List.length_zipWith]; omega
  have hz : i < (List.zipWith add32 s r).length := by rw [List.length_zipWith]; omega
  unfold zp
  have hd : s.drop i = s[i]'(by omega) :: s.drop (i + 1) := List.drop_eq_getElem_cons (by omega)
  rw [List.set_append_right _ _ (by omega), hl, Nat.sub_self, hd, List.set_cons_zero, List.take_succ_eq_append_getElem hz, List.getElem_zipWith]
  rw [List.getD_eq_getElem?_getD, List.getD_eq_getElem?_getD, List.getElem?_eq_getElem (by omega), List.getElem?_eq_getElem (by omega)]
  simp
theorem zp_all (s r : List Nat) (hs : s.length = 8) (hr : r.length = 8) : zp s r 8 = List.zipWith add32 s r := by
  unfold zp
  rw [List.take_of_length_le (by rw [List.length_zipWith]; omega), List.drop_of_length_le (by omega), List.append_nil]
end Go.Proofs.YtjbleefpafnhhaaDoor

namespace Go.Proofs.YtjbleefpafnhhaaDoor
open Go.RowKit
def Kc (w : World) : Prop := 2 + 1 ≤ w.heap.size ∧ ∀ (t x : Nat), kc[t]? = some x → w.cell? ⟨2, t, none⟩ = some (.int .u32 (x : Int))
theorem Kc.later {w w' : World} (h : Kc w) (hb : Below w.heap.size w w') : Kc w' :=
  ⟨Nat.le_trans h.1 hb.size, fun t x hx => (hb.cell (by have := h.1; show (2 : Nat) < _; omega)).trans (h.2 t x hx)⟩
theorem not32 (e : Nat) (he : e < 4294967296) : 4294967295 ^^^ e = 4294967295 - e := by
  have h := congrArg BitVec.toNat (BitVec.allOnes_xor (x := BitVec.ofNat 32 e))
  rw [BitVec.toNat_xor, BitVec.toNat_not, BitVec.toNat_allOnes, BitVec.toNat_ofNat, Nat.mod_eq_of_lt (by omega)] at h
  simpa using h
theorem bg1_bits (e : Nat) (he : e < 4294967296) : bits BinOp.xor IntKind.u32 (bits BinOp.xor IntKind.u32 ((rr e 6 : Nat) : Int) ((rr e 11 : Nat) : Int)) ((rr e 25 : Nat) : Int) = ((bg1 e : Nat) : Int) := by
  have h1 := rr_lt e 6 he (by decide)
  have h2 := rr_lt e 11 he (by decide)
  have h3 := rr_lt e 25 he (by decide)
  rw [u32_xor_nat _ _ h1 h2, u32_xor_nat _ _ (xor_lt h1 h2) h3]; rfl
theorem bg0_bits (e : Nat) (he : e < 4294967296) : bits BinOp.xor IntKind.u32 (bits BinOp.xor IntKind.u32 ((rr e 2 : Nat) : Int) ((rr e 13 : Nat) : Int)) ((rr e 22 : Nat) : Int) = ((bg0 e : Nat) : Int) := by
  have h1 := rr_lt e 2 he (by decide)
  have h2 := rr_lt e 13 he (by decide)
  have h3 := rr_lt e 22 he (by decide)
  rw [u32_xor_nat _ _ h1 h2, u32_xor_nat _ _ (xor_lt h1 h2) h3]; rfl
theorem not_bits (e : Nat) (he : e < 4294967296) : bits BinOp.xor IntKind.u32 (if IntKind.u32.signed = true then -1 else IntKind.u32.max) (e : Int) = ((4294967295 - e : Nat) : Int) := by
  have h := u32_xor_nat 4294967295 e (by decide) he
  rw [not32 e he] at h
  exact h
theorem chs_bits (e f g : Nat) (he : e < 4294967296) (hf : f < 4294967296) (hg : g < 4294967296) : bits BinOp.xor IntKind.u32 (bits BinOp.and IntKind.u32 (e : Int) (f : Int)) (bits BinOp.and IntKind.u32 (bits BinOp.xor IntKind.u32 (if IntKind.u32.signed = true then -1 else IntKind.u32.max) (e : Int)) (g : Int)) = ((chs e f g : Nat) : Int) := by
  rw [not_bits e he, u32_and_nat _ _ he hf, u32_and_nat _ _ (by omega) hg, u32_xor_nat _ _ (and_lt he) (and_lt (by omega))]; rfl
theorem maj_bits (a b c : Nat) (ha : a < 4294967296) (hb : b < 4294967296) (hc : c < 4294967296) : bits BinOp.xor IntKind.u32 (bits BinOp.xor IntKind.u32 (bits BinOp.and IntKind.u32 (a : Int) (b : Int)) (bits BinOp.and IntKind.u32 (a : Int) (c : Int))) (bits BinOp.and IntKind.u32 (b : Int) (c : Int)) = ((maj a b c : Nat) : Int) := by
  rw [u32_and_nat _ _ ha hb, u32_and_nat _ _ ha hc, u32_and_nat _ _ hb hc, u32_xor_nat _ _ (and_lt ha) (and_lt ha), u32_xor_nat _ _ (xor_lt (and_lt ha) (and_lt ha)) (and_lt hb)]; rfl
def CMid (w : World) (st wd : List Nat) (p : Value) (W : World) : Prop :=
  ∃ g5, p = .pointer (some ⟨g5, 0, none⟩) ∧ w.heap.size + 1 + 1 < g5 ∧ Arr W w.heap.size 8 117 (us st) ∧ Arr W (w.heap.size + 1 + 1) 8 117 (us (List.replicate 8 0)) ∧ Arr W g5 64 140 (us wd) ∧ Below w.heap.size w W
set_option maxHeartbeats 4000000 in
set_option maxRecDepth 100000 in
theorem compress_aux (st blk Q Z : List Nat) (hst : st.length = 8) (hsa : AllW st) (hl : blk.length = 64) (hb : AllB blk) (w : World) (hk : Kc w) (HQ : Hid (sched blk = Q)) (HZ : Hid (List.zipWith add32 st (rnds Q (St.of st) 64).list = Z)) :
    Calls Tryd.prog 91 #[.agg (us st).toArray, .agg (bs blk).toArray] w fun e w' => e = .returned (.agg (us Z).toArray) ∧ Below w.heap.size w w' := by
  have HQL : Hid (Q.length = 64) := by show Q.length = 64; rw [← HQ.out]; exact sched_len blk
  have HQA : Hid (AllW Q) := by show AllW Q; rw [← HQ.out]; exact sched_all hb
  have HQU : Hid ((us Q).length = 64) := by show (us Q).length = 64; rw [us_len, HQL.out]
  have E64 : Hid ((us Q).toArray.size = 64) := HQU
  have HC : Hid (∀ W, Calls Tryd.prog 94 #[.agg (bs blk).toArray] W fun e w' => e = .returned (.agg (us Q).toArray) ∧ Below W.heap.size W w') := fun W => by rw [← HQ.out]; exact schedule_any blk hl hb W
  clear HQ
  have HL := Lib.hid hl
  have HB := Lib.hid hb
  have HST := Lib.hid hst
  have HSA := Lib.hid hsa
  have HK := Lib.hid hk
  have HLb : Hid ((bs blk).length = 64) := by show (bs blk).length = 64; rw [bs_len, hl]
  have HLs : Hid ((us st).length = 8) := by show (us st).length = 8; rw [us_len, hst]
  clear hl hb hst hsa hk
  go_enter Tryd.func91, Tryd.ntmps91
  go_upto_region 1 with fail
  go_cut [5] (fun p W => CMid w st Q p W)
  case first =>
    obtain ⟨a1, a2, a3, hbw⟩ := three_new w 117 118 117 (us st).toArray (bs blk).toArray #[.int .u32 0, .int .u32 0, .int .u32 0, .int .u32 0, .int .u32 0, .int .u32 0, .int .u32 0, .int .u32 0] _ _ (us (List.replicate 8 0)) 8 64 8 rfl rfl rfl HLs.out HLb.out (by simp [us]) (by decide) (by decide) (by decide)
    have hR := Lib.hid a2.range
    go_wp2_with (first
      | (with_reducible refine wpList_load_mid rfl _ (.tmp 3) rfl (w.heap.size + 1) _ rfl (bs blk) _ hR.out Tryd.underlying118 rfl (by rw [HLb.out]; exact info_block) ?_)
      | (go_at_call 94; refine (HC.out _).mono ?_; rintro e w3 ⟨rfl, hb3⟩)
      | (with_reducible refine wpList_store_new rfl _ (.tmp 5) (.tmp 20) rfl rfl rfl info_words E64.out rfl (all_oneCell_toArray (us_cell _)) ?_; intro w5 hbel5 hrow5 hsz5))
    go_meet
    exact ⟨w3.heap.size, rfl, by have := hb3.size; simp at this; omega, (a1.later hb3).later hbel5, (a3.later hb3).later hbel5, Arr.of_row hrow5 HQU.out (by decide), later (later hbw hb3) hbel5⟩
  case rest =>
    obtain ⟨g5, rfl, hg5, a1, a3, a5, hbw⟩ := hcut
    have gd : ∀ j, j < 8 → st[j]? = some (st.getD j 0) := fun j hj => by
      rw [List.getD_eq_getElem?_getD, List.getElem?_eq_getElem (by have := HST.out; omega)]; rfl
    obtain ⟨S, hS⟩ : ∃ S, St.of st = S := ⟨_, rfl⟩
    have hSo := of_ok HSA.out
    have s0 : wc.cell? ⟨w.heap.size, 0, none⟩ = some (.int .u32 (S.a : Int)) := by rw [← hS]; exact a1.cell (us_get (gd 0 (by decide)))
    have s1 : wc.cell? ⟨w.heap.size, 1, none⟩ = some (.int .u32 (S.b : Int)) := by rw [← hS]; exact a1.cell (us_get (gd 1 (by decide)))
    have s2 : wc.cell? ⟨w.heap.size, 2, none⟩ = some (.int .u32 (S.c : Int)) := by rw [← hS]; exact a1.cell (us_get (gd 2 (by decide)))
    have s3 : wc.cell? ⟨w.heap.size, 3, none⟩ = some (.int .u32 (S.d : Int)) := by rw [← hS]; exact a1.cell (us_get (gd 3 (by decide)))
    have s4 : wc.cell? ⟨w.heap.size, 4, none⟩ = some (.int .u32 (S.e : Int)) := by rw [← hS]; exact a1.cell (us_get (gd 4 (by decide)))
    have s5 : wc.cell? ⟨w.heap.size, 5, none⟩ = some (.int .u32 (S.f : Int)) := by rw [← hS]; exact a1.cell (us_get (gd 5 (by decide)))
    have s6 : wc.cell? ⟨w.heap.size, 6, none⟩ = some (.int .u32 (S.g : Int)) := by rw [← hS]; exact a1.cell (us_get (gd 6 (by decide)))
    have s7 : wc.cell? ⟨w.heap.size, 7, none⟩ = some (.int .u32 (S.h : Int)) := by rw [← hS]; exact a1.cell (us_get (gd 7 (by decide)))
    rw [hS] at hSo
    have HS := Lib.hid hS
    have HA1 := Lib.hid a1
    have HA3 := Lib.hid a3
    have HA5 := Lib.hid a5
    have HGD := Lib.hid gd
    clear hS a1 a3 a5 gd
    go_wp2_with fail
    go_quiet (fail)
    go_wp2_with fail
    clear s0 s1 s2 s3 s4 s5 s6 s7
    go_loopw [6, 7, 8, 9, 10, 11, 12, 13, 37] (fun a b c d e f g h i W => ∃ (t q ra rb rc rd re rf rg rh : Nat), t ≤ 64 ∧ i = .int .i64 (t : Int) ∧ Hid ((⟨ra, rb, rc, rd, re, rf, rg, rh⟩ : St) = rnds Q S t) ∧
        a = .int .u32 (ra : Int) ∧ b = .int .u32 (rb : Int) ∧ c = .int .u32 (rc : Int) ∧ d = .int .u32 (rd : Int) ∧ e = .int .u32 (re : Int) ∧ f = .int .u32 (rf : Int) ∧ g = .int .u32 (rg : Int) ∧ h = .int .u32 (rh : Int) ∧ W = wc.drewN q) (fun _ _ _ _ _ _ _ _ i _ => 64 - (intOf i).toNat)
    case atStart => exact ⟨0, _, S.a, S.b, S.c, S.d, S.e, S.f, S.g, S.h, by omega, rfl, Lib.hid rfl, rfl, rfl, rfl, rfl, rfl, rfl, rfl, rfl, rfl⟩
    case round =>
      obtain ⟨t, q, ra, rb, rc, rd, re, rf, rg, rh, ht, rfl, HR, rfl, rfl, rfl, rfl, rfl, rfl, rfl, rfl, rfl⟩ := hrel
      by_cases hlt : t < 64
      · have hok := rnds_ok Q hSo t
        rw [← HR.out] at hok
        obtain ⟨oa, ob, oc, od, oe, of_, og, oh⟩ := hok
        simp only at oa ob oc od oe of_ og oh
        have hkt : kc[t]? = some (kc.getD t 0) := by rw [List.getD_eq_getElem?_getD, List.getElem?_eq_getElem (by rw [kc_len]; exact hlt)]; rfl
        have hqt : Q[t]? = some (Q.getD t 0) := by rw [List.getD_eq_getElem?_getD, List.getElem?_eq_getElem (by rw [HQL.out]; exact hlt)]; rfl
        have kcell := (hbw.cell (show (2 : Nat) < _ by have := HK.out.1; omega)).trans (HK.out.2 t _ hkt)
        have qcell := HA5.out.cell (us_get hqt)
        have kv := getD_lt kc_all (by decide) t
        have qv := getD_lt HQA.out (by decide) t
        have HN : Hid (rnds Q S (t + 1) = step ⟨ra, rb, rc, rd, re, rf, rg, rh⟩ (kc.getD t 0) (Q.getD t 0)) := by show rnds Q S (t + 1) = _; rw [HR.out]; rfl
        generalize kc.getD t 0 = K at kcell kv HN
        generalize Q.getD t 0 = X at qcell qv HN
        have hti : (t : Int) < 64 := by omega
        have ht0 : (0 : Int) ≤ (t : Int) := by omega
        clear hkt hqt
        go_wp2_with fail
        go_quiet ((go_at_call 95; first | exact quiet_more (rotr6 re _ oe) | exact quiet_more (rotr11 re _ oe) | exact quiet_more (rotr25 re _ oe)))
        go_wp2_with (first
          | (go_at_call 95; ((with_reducible refine (rotr2 ra _ oa).mono ?_); rintro e w1 ⟨rfl, rfl⟩))
          | (go_at_call 95; ((with_reducible refine (rotr13 ra _ oa).mono ?_); rintro e w1 ⟨rfl, rfl⟩))
          | (go_at_call 95; ((with_reducible refine (rotr22 ra _ oa).mono ?_); rintro e w1 ⟨rfl, rfl⟩)))
        go_roundw
        case rel =>
          rw [bg1_bits re oe, chs_bits re rf rg oe of_ og, bg0_bits ra oa, maj_bits ra rb rc oa ob oc]
          refine ⟨t + 1, _, (tx ⟨ra, rb, rc, rd, re, rf, rg, rh⟩ K X + ty ⟨ra, rb, rc, rd, re, rf, rg, rh⟩) % 4294967296, ra, rb, rc, (rd + tx ⟨ra, rb, rc, rd, re, rf, rg, rh⟩ K X) % 4294967296, re, rf, rg, by omega, by go_num, Lib.hid HN.out.symm, congrArg (Value.int .u32) ?_, rfl, rfl, rfl, congrArg (Value.int .u32) ?_, rfl, rfl, rfl, rfl⟩
          · unfold tx ty; dsimp only; omega
          · unfold tx; dsimp only; omega
        case measure => simp [intOf]; omega
      · have ht64 : t = 64 := by omega
        subst ht64
        have hok := rnds_ok Q hSo 64
        rw [← HR.out] at hok
        obtain ⟨oa, ob, oc, od, oe, of_, og, oh⟩ := hok
        simp only at oa ob oc od oe of_ og oh
        have HZ2 : Hid (List.zipWith add32 st [ra, rb, rc, rd, re, rf, rg, rh] = Z) := by
          show List.zipWith add32 st [ra, rb, rc, rd, re, rf, rg, rh] = Z
          rw [← HZ.out, HS.out, ← HR.out]; rfl
        obtain ⟨rl, hrl⟩ : ∃ rl, [ra, rb, rc, rd, re, rf, rg, rh] = rl := ⟨_, rfl⟩
        have hrll : rl.length = 8 := by rw [← hrl]; rfl
        have hra : AllW rl := by
          intro x hx
          rw [← hrl] at hx
          simp only [List.mem_cons, List.not_mem_nil, or_false] at hx
          rcases hx with rfl | rfl | rfl | rfl | rfl | rfl | rfl | rfl <;> assumption
        have HIX : Hid (∀ (k : Nat) (W : World), k < 8 → (Instr.index 117 (.agg #[.int .u32 (ra : Int), .int .u32 (rb : Int), .int .u32 (rc : Int), .int .u32 (rd : Int), .int .u32 (re : Int), .int .u32 (rf : Int), .int .u32 (rg : Int), .int .u32 (rh : Int)]) (.int .i64 (k : Int))).run Tryd.prog W = .ok (.int .u32 ((rl.getD k 0 : Nat) : Int)) W) := fun k W hk => by
          refine run_index_arr (P := Tryd.prog) W 117 116 8 .i64 .u32 _ k _ Tryd.underlying117 Tryd.underlying116 info_u32 hk ?_
          have h1 : rl[k]? = some (rl.getD k 0) := by rw [List.getD_eq_getElem?_getD, List.getElem?_eq_getElem (by omega)]; rfl
          have h2 := us_get h1
          rw [← hrl] at h2 ⊢
          simpa [us, U32] using h2
        rw [hrl] at HZ2
        have HRL := Lib.hid hrll
        have HRA := Lib.hid hra
        clear hrl hrll hra HR
        go_wp2_with fail
        obtain ⟨wo, hwo⟩ : ∃ wo : World, wo = wc.drewN q := ⟨_, rfl⟩
        have b1 : Arr wo w.heap.size 8 117 (us st) := by rw [hwo]; exact HA1.out
        have b3 : Arr wo (w.heap.size + 1 + 1) 8 117 (us (List.replicate 8 0)) := by rw [hwo]; exact HA3.out
        have hbo : Below w.heap.size w wo := by rw [hwo]; exact below_drewN hbw q
        rw [← hwo]
        clear hwo
        go_loopw [109] (fun i W => ∃ k : Nat, k ≤ 8 ∧ i = .int .i64 (k : Int) ∧ Arr W w.heap.size 8 117 (us (zp st rl k)) ∧ Arr W (w.heap.size + 1 + 1) 8 117 (us (List.replicate 8 0)) ∧ Below w.heap.size w W) (fun i _ => 8 - (intOf i).toNat)
        case atStart => exact ⟨0, by omega, rfl, by rw [zp_zero]; exact b1, b3, hbo⟩
        case round =>
          obtain ⟨k, hk, rfl, c1, c3, hbk⟩ := hrel
          by_cases hlt8 : k < 8
          · have hold := c1.cell (us_get (zp_get st rl k HST.out HRL.out hlt8))
            have hfr := c1.free k
            have hix := fun W => HIX.out k W hlt8
            have ho := getD_lt HSA.out (by decide) k
            have hv := getD_lt HRA.out (by decide) k
            have hset := us_set (zp st rl k) k (add32 (st.getD k 0) (rl.getD k 0))
            rw [zp_set st rl k HST.out HRL.out hlt8] at hset
            generalize st.getD k 0 = O at hold ho hset
            generalize rl.getD k 0 = V at hix hv hset
            have HSET := Lib.hid hset
            have HC1 := Lib.hid c1
            have hki : (k : Int) < 8 := by omega
            clear hset c1
            go_wp2_with fail
            go_roundw
            case rel =>
              have e : ((O : Int) + (V : Int)) % 4294967296 = ((add32 O V : Nat) : Int) := by unfold add32; omega
              rw [e]
              exact ⟨k + 1, by omega, by go_num, by rw [← HSET.out]; exact HC1.out.set_ _ _, c3.other (by omega) _, hbk.setCell (Nat.le_refl _) _⟩
            case measure => simp [intOf]; omega
          · have hk8 : k = 8 := by omega
            subst hk8
            rw [zp_all st rl HST.out HRL.out, HZ2.out] at c1
            have HZL : Hid ((us Z).length = 8) := by show (us Z).length = 8; have := c1.1; omega
            have hR := Lib.hid c1.range
            have hth := Lib.hid (show wr.there (w.heap.size + 1 + 1) 0 (us Z).toArray.size from by
              have e8 : (us Z).toArray.size = 8 := HZL.out
              rw [e8]; exact c3.there)
            have hinf : (Tryd.prog.info? 117).map (·.size) = some (us Z).toArray.size := by
              have e8 : (us Z).toArray.size = 8 := HZL.out
              rw [e8]; exact info_state
            clear c1 c3
            go_wp2_with (first
              | (with_reducible refine wpList_load_mid rfl _ (.tmp 2) rfl w.heap.size _ rfl (us Z) _ hR.out Tryd.underlying117 rfl (by rw [HZL.out]; exact info_state) ?_)
              | (with_reducible refine wpList_store_mid rfl _ (.tmp 4) (.tmp 120) rfl (w.heap.size + 1 + 1) 0 _ rfl rfl hth.out hinf (all_oneCell_toArray (us_cell _)) ?_))
            refine bodyPost_ret (hresults_one rfl _ _ (w.heap.size + 1 + 1) (us Z) _ rfl ?_ Tryd.underlying117 rfl (by rw [HZL.out]; exact info_state)) rfl ⟨rfl, below_setCells _ _ _ hbk (by omega)⟩
            exact World.rangeAt_setCells_same _ _ _ _ (show World.there _ (w.heap.size + 1 + 1) 0 (us Z).length from fun j hj => hth.out j (by simpa using hj))
theorem compress_any (st blk : List Nat) (hst : st.length = 8) (hsa : AllW st) (hl : blk.length = 64) (hb : AllB blk) (w : World) (hk : Kc w) :
    Calls Tryd.prog 91 #[.agg (us st).toArray, .agg (bs blk).toArray] w fun e w' => e = .returned (.agg (us (comp st blk)).toArray) ∧ Below w.heap.size w w' :=
  compress_aux st blk (sched blk) (comp st blk) hst hsa hl hb w hk (Lib.hid rfl) (Lib.hid rfl)
end Go.Proofs.YtjbleefpafnhhaaDoor

namespace Go.Proofs.YtjbleefpafnhhaaDoor
open Go.RowKit
def sC (ws blk : List Nat) (n : Nat) : List Value := us ws ++ bs blk ++ [.int .u64 (n : Int)]
theorem sC_len (ws blk : List Nat) (n : Nat) (h : ws.length = 8) (h2 : blk.length = 64) : (sC ws blk n).length = 73 := by
  unfold sC; rw [List.length_append, List.length_append, us_len, bs_len, h, h2]; rfl
theorem sC_cell (ws blk : List Nat) (n : Nat) : ∀ u ∈ sC ws blk n, u.oneCell' = true := by
  intro u hu
  unfold sC at hu
  rcases List.mem_append.1 hu with hu | hu
  · rcases List.mem_append.1 hu with hu | hu
    · exact us_cell _ u hu
    · exact bs_cell _ u hu
  · rw [List.mem_singleton] at hu; subst hu; rfl
theorem info_stream : (Tryd.prog.info? 121).map (·.size) = some 73 := by kernel_rfl
theorem two_new (w : World) (e1 e2 : TypeId) (c1 c2 : Array Value) (xs1 xs2 : List Value) (n1 n2 : Nat) (h1 : c1.toList = xs1) (h2 : c2.toList = xs2) (l1 : xs1.length = n1) (l2 : xs2.length = n2) (m1 : n1 ≤ 1000) (m2 : n2 ≤ 1000) :
    Arr ((w.alloc (.cells c1 e1)).alloc (.cells c2 e2)) w.heap.size n1 e1 xs1 ∧ Arr ((w.alloc (.cells c1 e1)).alloc (.cells c2 e2)) (w.heap.size + 1) n2 e2 xs2 ∧ Below w.heap.size w ((w.alloc (.cells c1 e1)).alloc (.cells c2 e2)) := by
  have s1 : (w.alloc (.cells c1 e1)).heap.size = w.heap.size + 1 := by simp
  have a1 := Arr.new' w e1 c1 n1 xs1 h1 l1 m1
  have a2 := Arr.new' (w.alloc (.cells c1 e1)) e2 c2 n2 xs2 h2 l2 m2
  rw [s1] at a2
  have b2 := new_later (w.alloc (.cells c1 e1)) (.cells c2 e2)
  exact ⟨a1.later b2, a2, later (new_later w _) b2⟩
theorem split_ws (ws blk : List Nat) (n : Nat) : sC ws blk n = [] ++ us ws ++ (bs blk ++ [.int .u64 (n : Int)]) := by unfold sC; simp
theorem split_blk (ws blk : List Nat) (n : Nat) : sC ws blk n = us ws ++ bs blk ++ [.int .u64 (n : Int)] := rfl
theorem zS_len : (sC (List.replicate 8 0) (List.replicate 64 0) 0).length = 73 := rfl
theorem setAll_e1 (ws Z blk : List Nat) (n : Nat) (h : (us ws).length = 8) (h2 : (us Z).length = 8) : setAll (sC ws blk n) 0 (us Z) = sC Z blk n := by
  rw [split_ws, setAll_mid [] (us ws) (us Z) _ 0 rfl (by omega), ← split_ws]
theorem setAll_e2 (ws blk : List Nat) (n : Nat) (h : (us ws).length = 8) (h2 : (bs blk).length = 64) : setAll (sC ws blk n) 8 (bs (List.replicate 64 0)) = sC ws (List.replicate 64 0) n := by
  rw [split_blk, setAll_mid (us ws) (bs blk) _ _ 8 (by omega) (by rw [h2, bs_len]; rfl)]; rfl
theorem setAll_e3 (vs : List Value) (h : vs.length = 73) : setAll (sC (List.replicate 8 0) (List.replicate 64 0) 0) 0 vs = vs := by
  rw [setAll_eq _ _ _ (by rw [h, zS_len]; omega)]
  rw [List.drop_of_length_le (by rw [h, zS_len]; omega)]; simp
def zS : Array Value := (sC (List.replicate 8 0) (List.replicate 64 0) 0).toArray
theorem zero_stream (W : World) : (zeroValue 121).run Tryd.prog W = .ok (.agg zS) W := by kernel_rfl
theorem zS_list : zS.toList = sC (List.replicate 8 0) (List.replicate 64 0) 0 := rfl
set_option maxHeartbeats 2000000 in
set_option maxRecDepth 100000 in
theorem flush_aux (ws blk Z : List Nat) (n : Nat) (hw : ws.length = 8) (hwa : AllW ws) (hl : blk.length = 64) (hb : AllB blk) (w : World) (hk : Kc w) (HZ : Hid (comp ws blk = Z)) :
    Calls Tryd.prog 86 #[.agg (sC ws blk n).toArray] w fun e w' => e = .returned (.agg (sC Z (List.replicate 64 0) n).toArray) ∧ Below w.heap.size w w' := by
  have HC : Hid (∀ W, Kc W → Calls Tryd.prog 91 #[.agg (us ws).toArray, .agg (bs blk).toArray] W fun e w' => e = .returned (.agg (us Z).toArray) ∧ Below W.heap.size W w') := fun W hW => by rw [← HZ.out]; exact compress_any ws blk hw hwa hl hb W hW
  have HZL : Hid ((us Z).length = 8) := by show (us Z).length = 8; rw [us_len, ← HZ.out]; exact comp_len blk hw
  have HS := Lib.hid (sC_len ws blk n hw hl)
  have HW := Lib.hid (show (us ws).length = 8 by rw [us_len, hw])
  have HB := Lib.hid (show (bs blk).length = 64 by rw [bs_len, hl])
  have HK := Lib.hid hk
  have HSL : Hid ((sC Z (List.replicate 64 0) n).length = 73) := sC_len Z _ n (by rw [← HZ.out]; exact comp_len blk hw) (by simp)
  have HSI : Hid ((Tryd.prog.info? 121).map (·.size) = some (sC Z (List.replicate 64 0) n).length) := by
    show (Tryd.prog.info? 121).map (·.size) = some (sC Z (List.replicate 64 0) n).length
    rw [HSL.out]; exact info_stream
  clear HZ hw hwa hl hb hk
  go_enter Tryd.func86, Tryd.ntmps86
  have hz := zero_stream
  go_upto_region 1 with fail
  obtain ⟨a1, a2, hbw⟩ := two_new w 121 121 (sC ws blk n).toArray zS _ _ 73 73 rfl zS_list HS.out zS_len (by decide) (by decide)
  generalize hW : (w.alloc (.cells (sC ws blk n).toArray 121)).alloc (.cells zS 121) = wc at a1 a2 hbw ⊢
  clear hW hz
  have r1 := Lib.hid (Arr.mid (k := 0) (by rw [split_ws] at a1; exact a1) rfl)
  have r2 := Lib.hid (Arr.mid (k := 8) a1 (by rw [HW.out]))
  have hkc := HK.out.later hbw
  have z64 : Hid ((bs (List.replicate 64 0)).length = 64) := by show (bs (List.replicate 64 0)).length = 64; rw [bs_len]; rfl
  go_wp2_with (first
    | (with_reducible refine wpList_load_mid rfl _ (.tmp 3) rfl w.heap.size 0 rfl (us ws) _ r1.out Tryd.underlying117 rfl (by rw [HW.out]; exact info_state) ?_)
    | (with_reducible refine wpList_load_mid rfl _ (.tmp 5) rfl w.heap.size 8 rfl (bs blk) _ r2.out Tryd.underlying118 rfl (by rw [HB.out]; exact info_block) ?_)
    | (go_at_call 91; refine (HC.out _ hkc).mono ?_; rintro e w3 ⟨rfl, hb3⟩; have c1 := a1.later hb3; have c2 := a2.later hb3; have hbw3 := later hbw hb3; clear a1 a2 hbw hb3)
    | (refine wpList_store_arr rfl _ (.tmp 8) (.tmp 7) rfl w.heap.size 0 73 121 _ (us Z) _ rfl rfl rfl c1 (by have := HZL.out; omega) (by rw [HZL.out]; exact info_state) (us_cell Z) ?_; intro w4 d1 o4; have d2 := c2.only o4 (by omega); have hbw4 := hbw3.trans o4.bel; clear c1 c2 hbw3 o4)
    | (refine wpList_store_arr rfl _ (.tmp 10) (.tmp 9) rfl w.heap.size 8 73 121 _ (bs (List.replicate 64 0)) _ rfl rfl rfl d1 (by have := z64.out; omega) (by rw [z64.out]; exact info_block) (bs_cell _) ?_; intro w5 e1 o5; have e2 := d2.only o5 (by omega); have hbw5 := hbw4.trans o5.bel; rw [setAll_e1 ws Z blk n HW.out HZL.out, setAll_e2 Z blk n HZL.out HB.out] at e1; have hR := Lib.hid e1.range; clear d1 d2 hbw4 o5)
    | (with_reducible refine wpList_load_mid rfl _ (.tmp 1) rfl w.heap.size 0 rfl (sC Z (List.replicate 64 0) n) _ hR.out Tryd.underlying121 rfl HSI.out ?_)
    | (refine wpList_store_arr rfl _ (.tmp 2) (.tmp 11) rfl (w.heap.size + 1) 0 73 121 _ (sC Z (List.replicate 64 0) n) _ rfl rfl rfl e2 (by rw [HSL.out]; omega) HSI.out (sC_cell _ _ _) ?_; intro w6 f2 o6; have hbw6 := hbw5.trans (o6.bel.mono (by omega : w.heap.size ≤ w.heap.size + 1)); rw [setAll_e3 _ HSL.out] at f2))
  exact bodyPost_ret (hresults_one rfl _ _ (w.heap.size + 1) (sC Z (List.replicate 64 0) n) _ rfl f2.range Tryd.underlying121 rfl HSI.out) rfl ⟨rfl, hbw6⟩
theorem flush_any (ws blk : List Nat) (n : Nat) (hw : ws.length = 8) (hwa : AllW ws) (hl : blk.length = 64) (hb : AllB blk) (w : World) (hk : Kc w) :
    Calls Tryd.prog 86 #[.agg (sC ws blk n).toArray] w fun e w' => e = .returned (.agg (sC (comp ws blk) (List.replicate 64 0) n).toArray) ∧ Below w.heap.size w w' :=
  flush_aux ws blk (comp ws blk) n hw hwa hl hb w hk (Lib.hid rfl)
end Go.Proofs.YtjbleefpafnhhaaDoor

