import Derived.Test.YtbfoajfpnfkfnaaDoorH1
import Derived.Test.YtbfoajfpnfkfnaaDoorPack
import Derived.Deep.DeepCutAuto
import Derived.StillTailTactics
set_option linter.unusedVariables false
namespace Go.Proofs.YtbfoajfpnfkfnaaDoor
open Go.RowKit

/-- Words as values. -/
def U32 (x : Nat) : Value := .int .u32 (x : Int)
def us (l : List Nat) : List Value := l.map U32
theorem us_len (l : List Nat) : (us l).length = l.length := by simp [us]
theorem us_app (l m : List Nat) : us (l ++ m) = us l ++ us m := by simp [us]
theorem us_get {l : List Nat} {j x : Nat} (h : l[j]? = some x) : (us l)[j]? = some (.int .u32 (x : Int)) := by
  simp [us, U32, List.getElem?_map, h]
theorem us_set (l : List Nat) (j x : Nat) : (us l).set j (.int .u32 (x : Int)) = us (l.set j x) := by
  simp [us, U32, List.map_set]
theorem us_cell (l : List Nat) : ∀ u ∈ us l, u.oneCell' = true := by
  intro u hu
  simp only [us, List.mem_map] at hu
  obtain ⟨x, _, rfl⟩ := hu
  rfl
/-- A variable of the call's own: n words in block g. -/
def Arr (W : World) (g n : Nat) (e : TypeId) (xs : List Value) : Prop := W.ownsRow g e 1 (.slice (some ⟨g, 0, none⟩) n n) n xs
theorem Arr.new (w : World) (e : TypeId) (cs : Array Value) (n : Nat) (hn : cs.size = n) (hm : n ≤ 1000) : Arr (w.alloc (.cells cs e)) w.heap.size n e cs.toList := arr_new w e cs n hn (by simp [maxLen]; omega)
theorem Arr.new' (w : World) (e : TypeId) (cs : Array Value) (n : Nat) (xs : List Value) (hx : cs.toList = xs) (hn : xs.length = n) (hm : n ≤ 1000) : Arr (w.alloc (.cells cs e)) w.heap.size n e xs := by
  subst hx; exact Arr.new w e cs n (by simpa using hn) hm
theorem Arr.below {W W' : World} {g n B : Nat} {e : TypeId} {xs : List Value} (h : Arr W g n e xs) (hb : Below B W W') (hg : g < B) : Arr W' g n e xs :=
  own_below h hb (fun k hk => by simp [Value.ownBlock] at hk; omega)
theorem Arr.later {W W' : World} {g n : Nat} {e : TypeId} {xs : List Value} (h : Arr W g n e xs) (hb : Below W.heap.size W W') : Arr W' g n e xs := own_below' h hb
theorem Arr.cell {W : World} {g n : Nat} {e : TypeId} {xs : List Value} (h : Arr W g n e xs) {j : Nat} {v : Value} (hv : xs[j]? = some v) : W.cell? ⟨g, j, none⟩ = some v := by
  have hj : j < n := by have := (List.getElem?_eq_some_iff.1 hv).1; have := h.1; omega
  rw [World.ownsRow.cellAt h j (by omega)]; exact hv
theorem Arr.free {W : World} {g n : Nat} {e : TypeId} {xs : List Value} (h : Arr W g n e xs) (j : Nat) : W.frozen? ⟨g, j, none⟩ = false := World.ownsRow.frozenAt h j
theorem Arr.set_ {W : World} {g n : Nat} {e : TypeId} {xs : List Value} (h : Arr W g n e xs) (j : Nat) (v : Value) : Arr (W.setCell ⟨g, j, none⟩ v) g n e (xs.set j v) := (World.ownsRow.stored h j v).1
theorem Arr.lt {W : World} {g n : Nat} {e : TypeId} {xs : List Value} (h : Arr W g n e xs) : g < W.heap.size := (World.ownsRow.lt h g rfl).2
theorem Arr.range {W : World} {g n : Nat} {e : TypeId} {xs : List Value} (h : Arr W g n e xs) : W.rangeAt g 0 xs := arr_range h
theorem Arr.other {W : World} {g n b j : Nat} {e : TypeId} {xs : List Value} (h : Arr W g n e xs) (hb : b ≠ g) (v : Value) : Arr (W.setCell ⟨b, j, none⟩ v) g n e xs := by
  refine ⟨h.1, ?_⟩
  rcases h.2 with h2 | ⟨g', cap, cur, hv, hg, hh, r⟩
  · exact .inl h2
  · refine .inr ⟨g', cap, cur, hv, hg, ?_, r⟩
    rw [Below.heap_setCell _ _ _ _ (by cases hv; simp; omega)]
    exact hh
theorem Arr.there {W : World} {g n : Nat} {e : TypeId} {xs : List Value} (h : Arr W g n e xs) : W.there g 0 n := fun j hj => by
  refine ⟨?_, by rw [Nat.zero_add]; exact h.free j⟩
  rw [Nat.zero_add, World.ownsRow.cellAt h j (by omega), List.getElem?_eq_getElem (by have := h.1; omega)]
  rfl

theorem shl_or32 (m d : Nat) (D : Int) (hD : D = (d : Int)) (hm : m < 16777216) (hd : d < 256) : bits .or .u32 ((m : Int) * 256) D = ((m * 256 + d : Nat) : Int) := by
  subst hD
  have e : (m : Int) * 256 = ((m * 256 : Nat) : Int) := by omega
  rw [e, u32_or_nat _ _ (by omega) (by omega), nat_join 8 (m * 256) d (by omega) (by omega)]
theorem info_u32 : (Tryd.prog.info? 29).map (·.size) = some 1 := by kernel_rfl
theorem info_u8s : (Tryd.prog.info? 5).map (·.size) = some 1 := by kernel_rfl

theorem quiet_same {P : Program} {f : FuncId} {args : Array Value} {w : World} {n : Nat} {v : Value}
    (h : Calls P f args (w.drewN n) fun e w' => e = .returned v ∧ w.drewN n = w') : Calls P f args (w.drewN n) fun e w'' => e = .returned v ∧ ∃ m, w'' = w.drewN m :=
  Calls.quiet_of_same (h.mono fun _ _ ⟨he, hw⟩ => ⟨he, hw.symm⟩)
theorem quiet_more {P : Program} {f : FuncId} {args : Array Value} {w : World} {a n : Nat} {v : Value}
    (h : Calls P f args (w.drewN (a + n)) fun e w' => e = .returned v ∧ w.drewN (a + n) = w') :
    Calls P f args (w.drewN (a + n)) fun e w'' => e = .returned v ∧ ∃ m, w'' = w.drewN (a + m) :=
  h.mono fun _ _ ⟨he, hm⟩ => ⟨he, n, hm.symm⟩
theorem sg0_bits (x : Nat) (hx : x < 4294967296) : bits BinOp.xor IntKind.u32 (bits BinOp.xor IntKind.u32 ((rr x 7 : Nat) : Int) ((rr x 18 : Nat) : Int)) ((x : Int) / 8) = ((sg0 x : Nat) : Int) := by
  have e : (x : Int) / 8 = ((x / 8 : Nat) : Int) := by simp
  have h7 := rr_lt x 7 hx (by decide)
  have h18 := rr_lt x 18 hx (by decide)
  rw [e, u32_xor_nat _ _ h7 h18, u32_xor_nat _ _ (xor_lt h7 h18) (by omega)]; rfl
theorem sg1_bits (x : Nat) (hx : x < 4294967296) : bits BinOp.xor IntKind.u32 (bits BinOp.xor IntKind.u32 ((rr x 17 : Nat) : Int) ((rr x 19 : Nat) : Int)) ((x : Int) / 1024) = ((sg1 x : Nat) : Int) := by
  have e : (x : Int) / 1024 = ((x / 1024 : Nat) : Int) := by simp
  have h7 := rr_lt x 17 hx (by decide)
  have h18 := rr_lt x 19 hx (by decide)
  rw [e, u32_xor_nat _ _ h7 h18, u32_xor_nat _ _ (xor_lt h7 h18) (by omega)]; rfl
theorem below_setCells {B b : Nat} {a : World} : ∀ (vs : List Value) (o : Nat) (w : World), Below B a w → B ≤ b → Below B a (w.setCells b o vs)
  | [], _, _, h, _ => h
  | v :: r, o, w, h, hb => below_setCells r (o + 1) _ (h.setCell (p := ⟨b, o, none⟩) hb v) hb
theorem us_sched_len (blk : List Nat) : (us (sched blk)).length = 64 := by rw [us_len, sched_len]
theorem us_sched_size (blk : List Nat) : (us (sched blk)).toArray.size = 64 := by rw [List.size_toArray, us_len, sched_len]
theorem info_block : (Tryd.prog.info? 31).map (·.size) = some 64 := by kernel_rfl
theorem info_words : (Tryd.prog.info? 67).map (·.size) = some 64 := by kernel_rfl
theorem info_state : (Tryd.prog.info? 30).map (·.size) = some 8 := by kernel_rfl
theorem results_one {P : Program} {fn : Func} {p : Tmp} {ty : TypeId} (h : fn.results = #[.cell p ty]) (tmps : Array Value) (w : World) (g : Nat) (cs : List Value) (d : TypeDesc)
    (hp : tmps.getD p undef = .pointer (some ⟨g, 0, none⟩)) (hg : w.rangeAt g 0 cs)
    (hu : P.underlying ty = some d) (hd : d.isRow = true) (hi : (P.info? ty).map (·.size) = some cs.length) :
    (results fn tmps).run P w = .ok (.agg cs.toArray) w := by
  have hp' : tmps[p]?.getD undef = .pointer (some ⟨g, 0, none⟩) := by simpa using hp
  simp [results, h, hp', asAddr, run_loadVar_mid w g 0 ty cs d hg hu hd hi]

theorem three_new (w : World) (e1 e2 e3 : TypeId) (c1 c2 c3 : Array Value) (xs1 xs2 xs3 : List Value) (n1 n2 n3 : Nat) (h1 : c1.toList = xs1) (h2 : c2.toList = xs2) (h3 : c3.toList = xs3) (l1 : xs1.length = n1) (l2 : xs2.length = n2) (l3 : xs3.length = n3) (m1 : n1 ≤ 1000) (m2 : n2 ≤ 1000) (m3 : n3 ≤ 1000) :
    Arr (((w.alloc (.cells c1 e1)).alloc (.cells c2 e2)).alloc (.cells c3 e3)) w.heap.size n1 e1 xs1 ∧ Arr (((w.alloc (.cells c1 e1)).alloc (.cells c2 e2)).alloc (.cells c3 e3)) (w.heap.size + 1) n2 e2 xs2 ∧
    Arr (((w.alloc (.cells c1 e1)).alloc (.cells c2 e2)).alloc (.cells c3 e3)) (w.heap.size + 1 + 1) n3 e3 xs3 ∧ Below w.heap.size w (((w.alloc (.cells c1 e1)).alloc (.cells c2 e2)).alloc (.cells c3 e3)) := by
  have s1 : (w.alloc (.cells c1 e1)).heap.size = w.heap.size + 1 := by simp
  have s2 : ((w.alloc (.cells c1 e1)).alloc (.cells c2 e2)).heap.size = w.heap.size + 1 + 1 := by simp
  have a1 := Arr.new' w e1 c1 n1 xs1 h1 l1 m1
  have a2 := Arr.new' (w.alloc (.cells c1 e1)) e2 c2 n2 xs2 h2 l2 m2
  have a3 := Arr.new' ((w.alloc (.cells c1 e1)).alloc (.cells c2 e2)) e3 c3 n3 xs3 h3 l3 m3
  rw [s1] at a2
  rw [s2] at a3
  have b2 := new_later (w.alloc (.cells c1 e1)) (.cells c2 e2)
  have b3 := new_later ((w.alloc (.cells c1 e1)).alloc (.cells c2 e2)) (.cells c3 e3)
  exact ⟨(a1.later b2).later b3, a2.later b3, a3, later (later (new_later w _) b2) b3⟩

set_option maxHeartbeats 4000000 in
set_option maxRecDepth 100000 in
theorem schedule_aux (blk Q : List Nat) (hl : blk.length = 64) (hb : AllB blk) (w : World) (HQ : Hid (gW blk 48 = Q)) (HQl : Hid (Q.length = 64)) :
    Calls Tryd.prog 73 #[.agg (bs blk).toArray] w fun e w' => e = .returned (.agg (us Q).toArray) ∧ Below w.heap.size w w' := by
  have HL := Lib.hid hl
  have HB := Lib.hid hb
  have HLb : Hid ((bs blk).length = 64) := by show (bs blk).length = 64; rw [bs_len, hl]
  clear hl hb
  go_enter Tryd.func73, Tryd.ntmps73
  go_upto_region 1 with fail
  go_cut [3] (fun r wx => r = .pointer (some ⟨w.heap.size + 1 + 1, 0, none⟩) ∧ Arr wx w.heap.size 64 31 (bs blk) ∧ Arr wx (w.heap.size + 1) 64 67 (us (List.replicate 64 0)) ∧ Arr wx (w.heap.size + 1 + 1) 64 67 (us (List.replicate 64 0)) ∧ Below w.heap.size w wx)
  case first =>
    go_wp2_with fail
    go_meet
    exact ⟨rfl, three_new w _ _ _ _ _ _ _ _ _ _ _ _ rfl rfl rfl HLb.out (by simp [us]) (by simp [us]) (by decide) (by decide) (by decide)⟩
  case rest =>
    obtain ⟨rfl, a1, a2, a3, hbw⟩ := hcut
    have hR := Lib.hid a1.range
    go_wp2_with (with_reducible refine wpList_load_mid rfl _ (.tmp 1) rfl w.heap.size _ rfl (bs blk) _ hR.out Tryd.underlying31 rfl (by rw [HLb.out]; exact info_block) ?_)
    go_loopw [10] (fun i W => ∃ k : Nat, k ≤ 64 ∧ i = .int .i64 (k : Int) ∧ Arr W (w.heap.size + 1 + 1) 64 67 (us (packW blk k)) ∧ Below (w.heap.size + 1 + 1) wc W) (fun i _ => 64 - (intOf i).toNat)
    case atStart => exact ⟨0, by omega, rfl, by rw [packW_zero]; exact a3, Below.refl _ _⟩
    case round =>
      obtain ⟨k, hk, rfl, ha, hbel⟩ := hrel
      by_cases hlt : k < 64
      · have hkl : k < blk.length := by have := HL.out; omega
        have hbk : (bs blk).toArray[k]? = some (.int .u8 (blk.getD k 0 : Nat)) := by
          have := bs_get blk k hkl
          rw [List.getD_eq_getElem?_getD]; simpa using this
        have hix := fun W => run_index_arr (P := Tryd.prog) W 31 5 64 .i64 .u8 (bs blk).toArray k _ Tryd.underlying31 Tryd.underlying5 info_u8s hlt hbk
        have hold := ha.cell (us_get (packW_old blk k hlt))
        have hfr := ha.free (k / 4)
        have hv := getD_lt HB.out (by decide) k
        have ho := pw_lt3 HB.out (k / 4) (k % 4) (by omega)
        have hset := us_set (packW blk k) (k / 4) (pw blk (k / 4) (k % 4) * 256 + blk.getD k 0)
        rw [packW_set blk k hlt] at hset
        have HSET := Lib.hid hset
        have HA := Lib.hid ha
        clear hbk hset ha
        generalize blk.getD k 0 = X at hix hv HSET
        generalize pw blk (k / 4) (k % 4) = O at hold ho HSET
        have hor := shl_or32 O X _ rfl ho hv
        obtain ⟨N, hN⟩ : ∃ N : Nat, O * 256 + X = N := ⟨_, rfl⟩
        rw [hN] at hor HSET
        clear hN
        have hki : (k : Int) < 64 := by omega
        go_wp2_with fail
        go_roundw
        case rel => exact ⟨k + 1, by omega, by go_num, by rw [← HSET.out]; exact HA.out.set_ _ _, hbel.setCell (Nat.le_refl _) _⟩
        case measure => simp [intOf]; omega
      · have hk64 : k = 64 := by omega
        subst hk64
        rw [← gW_zero] at ha
        clear hR a1 a3 hlt hk
        obtain ⟨wo, rfl⟩ : ∃ wo : World, wo = wr := ⟨_, rfl⟩
        go_wp2_with fail
        go_loopw [6] (fun i W => ∃ n : Nat, n ≤ 48 ∧ i = .int .i64 ((16 + n : Nat) : Int) ∧ Arr W (w.heap.size + 1 + 1) 64 67 (us (gW blk n)) ∧ Below (w.heap.size + 1 + 1) wc W) (fun i _ => 64 - (intOf i).toNat)
        case atStart => exact ⟨0, by omega, rfl, ha, hbel⟩
        case round =>
          obtain ⟨n, hn, rfl, ha, hbel⟩ := hrel
          by_cases hlt : n < 48
          · obtain ⟨T, hT⟩ : ∃ T : Nat, 16 + n = T := ⟨_, rfl⟩
            rw [hT]
            have c15 := ha.cell (us_get (gW_get blk n (T - 15) (by omega)))
            have c2 := ha.cell (us_get (gW_get blk n (T - 2) (by omega)))
            have c16 := ha.cell (us_get (gW_get blk n (T - 16) (by omega)))
            have c7 := ha.cell (us_get (gW_get blk n (T - 7) (by omega)))
            obtain ⟨x0, hx0⟩ := gW_any blk n T (by omega) hn
            have cT := ha.cell (us_get hx0)
            have hfr := ha.free T
            have hgw := grow_all n (words16_all HB.out)
            have v15 := getD_lt hgw (by decide) (T - 15)
            have v2 := getD_lt hgw (by decide) (T - 2)
            have v16 := getD_lt hgw (by decide) (T - 16)
            have v7 := getD_lt hgw (by decide) (T - 7)
            have hset := us_set (gW blk n) T (nextW (grow n (words16 blk)) T)
            rw [← hT, gW_set blk n hlt, hT] at hset
            have hnx : nextW (grow n (words16 blk)) T = ((((grow n (words16 blk)).getD (T - 16) 0 + sg0 ((grow n (words16 blk)).getD (T - 15) 0)) % 4294967296 + (grow n (words16 blk)).getD (T - 7) 0) % 4294967296 + sg1 ((grow n (words16 blk)).getD (T - 2) 0)) % 4294967296 := rfl
            generalize (grow n (words16 blk)).getD (T - 15) 0 = X15 at c15 v15 hnx
            generalize (grow n (words16 blk)).getD (T - 2) 0 = X2 at c2 v2 hnx
            generalize (grow n (words16 blk)).getD (T - 16) 0 = X16 at c16 v16 hnx
            generalize (grow n (words16 blk)).getD (T - 7) 0 = X7 at c7 v7 hnx
            have HSET := Lib.hid hset
            have HNX := Lib.hid hnx
            have HA := Lib.hid ha
            have HT := Lib.hid hT
            have t1 : 16 ≤ T := by omega
            have t2 : T < 64 := by omega
            have t3 : (T : Int) < 64 := by omega
            clear hset hnx ha hT hx0 hgw
            have w15 : IntKind.i64.wrap ((T : Int) - 15) = (T : Int) - 15 := IntWalk.i64_in _ (by omega)
            have z15 : (0 : Int) ≤ (T : Int) - 15 := by omega
            have n15 : ((T : Int) - 15).toNat = T - 15 := by omega
            have q15 : (T : Int) - 15 < 64 := by omega
            have w2 : IntKind.i64.wrap ((T : Int) - 2) = (T : Int) - 2 := IntWalk.i64_in _ (by omega)
            have z2 : (0 : Int) ≤ (T : Int) - 2 := by omega
            have n2 : ((T : Int) - 2).toNat = T - 2 := by omega
            have q2 : (T : Int) - 2 < 64 := by omega
            have w16 : IntKind.i64.wrap ((T : Int) - 16) = (T : Int) - 16 := IntWalk.i64_in _ (by omega)
            have z16 : (0 : Int) ≤ (T : Int) - 16 := by omega
            have n16 : ((T : Int) - 16).toNat = T - 16 := by omega
            have q16 : (T : Int) - 16 < 64 := by omega
            have w7 : IntKind.i64.wrap ((T : Int) - 7) = (T : Int) - 7 := IntWalk.i64_in _ (by omega)
            have z7 : (0 : Int) ≤ (T : Int) - 7 := by omega
            have n7 : ((T : Int) - 7).toNat = T - 7 := by omega
            have q7 : (T : Int) - 7 < 64 := by omega
            have z0 : (0 : Int) ≤ (T : Int) := by omega
            go_wp2_with fail
            go_quiet ((go_at_call 74; first | exact quiet_same (rotr7 X15 _ v15) | exact quiet_same (rotr18 X15 _ v15)))
            go_wp2_with fail
            go_quiet ((go_at_call 74; first | exact quiet_more (rotr17 X2 _ v2) | exact quiet_more (rotr19 X2 _ v2)))
            go_wp2_with fail
            go_region
            all_goals (clear w15 z15 n15 q15 w2 z2 n2 q2 w16 z16 n16 q16 w7 z7 n7 q7; go_wp2_with fail)
            go_roundw
            case rel =>
              rw [sg0_bits X15 v15, sg1_bits X2 v2]
              have e : ((X16 : Int) + ((sg0 X15 : Nat) : Int) + (X7 : Int) + ((sg1 X2 : Nat) : Int)) % 4294967296 = ((nextW (grow n (words16 blk)) T : Nat) : Int) := by rw [HNX.out]; omega
              rw [e]
              refine ⟨n + 1, by omega, congrArg (Value.int .i64) (by have := HT.out; omega), ?_, (below_drewN hbel _).setCell (Nat.le_refl _) _⟩
              rw [← HSET.out]
              exact (show Arr (wr.drewN _) _ _ _ _ from HA.out).set_ T _
            case measure => simp [intOf]; omega
          · have hn48 : n = 48 := by omega
            subst hn48
            rw [HQ.out] at ha
            have hR := Lib.hid ha.range
            have HLs : Hid ((us Q).length = 64) := (by show (us Q).length = 64; rw [us_len, HQl.out])
            have e64 : (us Q).toArray.size = 64 := HLs.out
            have hth := Lib.hid (show wr.there (w.heap.size + 1) 0 (us Q).toArray.size from by
              rw [e64]
              exact (a2.below hbel (by omega)).there)
            have hinf : (Tryd.prog.info? 67).map (·.size) = some (us Q).toArray.size := by rw [e64]; exact info_words
            clear e64
            have hb2 := hbw.trans (hbel.mono (by omega : w.heap.size ≤ w.heap.size + 1 + 1))
            clear ha hbel a2
            go_wp2_with (first
              | (with_reducible refine wpList_load_mid rfl _ (.tmp 3) rfl (w.heap.size + 1 + 1) _ rfl (us Q) _ hR.out Tryd.underlying67 rfl (by rw [HLs.out]; exact info_words) ?_)
              | (with_reducible refine wpList_store_mid rfl _ (.tmp 2) (.tmp 79) rfl (w.heap.size + 1) 0 _ rfl rfl hth.out hinf (all_oneCell_toArray (us_cell _)) ?_))
            refine bodyPost_ret (results_one rfl _ _ (w.heap.size + 1) (us Q) _ rfl ?_ Tryd.underlying67 rfl (by rw [HLs.out]; exact info_words)) rfl ⟨rfl, below_setCells _ _ _ hb2 (by omega)⟩
            exact World.rangeAt_setCells_same _ _ _ _ (show World.there _ (w.heap.size + 1) 0 (us Q).length from fun j hj => hth.out j (by simpa using hj))
theorem schedule_any (blk : List Nat) (hl : blk.length = 64) (hb : AllB blk) (w : World) :
    Calls Tryd.prog 73 #[.agg (bs blk).toArray] w fun e w' => e = .returned (.agg (us (sched blk)).toArray) ∧ Below w.heap.size w w' :=
  schedule_aux blk (sched blk) hl hb w (Lib.hid (gW_all blk)) (Lib.hid (sched_len blk))
end Go.Proofs.YtbfoajfpnfkfnaaDoor
