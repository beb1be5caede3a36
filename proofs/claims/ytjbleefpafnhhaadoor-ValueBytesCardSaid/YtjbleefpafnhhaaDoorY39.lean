import Derived.Test.YtjbleefpafnhhaaDoorY13
import Derived.Test.YtjbleefpafnhhaaDoorY38

set_option linter.unusedVariables false
set_option linter.unusedSimpArgs false
namespace Go.Proofs.YtjbleefpafnhhaaDoor
open Go.RowKit
def ofIn (tag : Int) (parts : List ByteArray) : List Nat := (tag % 256).toNat :: parts.flatMap encS
theorem ofIn_zero (tag : Int) : ofIn tag [] = [(tag % 256).toNat] := rfl
theorem ofIn_snoc (tag : Int) (l : List ByteArray) (s : ByteArray) : ofIn tag (l ++ [s]) = ofIn tag l ++ encS s := by unfold ofIn; simp
theorem encS_all (s : ByteArray) (h : s.size ≤ 9223372036854775807) : AllB (encS s) := by
  unfold encS; exact AllB.app (enc_lt s.size (by omega)) (sb_lt s)
theorem ofIn_all (tag : Int) (l : List ByteArray) (h : ∀ s ∈ l, s.size ≤ 100000) : AllB (ofIn tag l) := by
  intro d hd
  unfold ofIn at hd
  rcases List.mem_cons.1 hd with rfl | hd
  · omega
  · obtain ⟨s, hs, hd⟩ := List.mem_flatMap.1 hd
    exact encS_all s (by have := h s hs; omega) d hd
theorem ofIn_len (tag : Int) (l : List ByteArray) (h : ∀ s ∈ l, s.size ≤ 100000) : (ofIn tag l).length ≤ 1 + 100009 * l.length := by
  have := flatMap_len_le encS 100009 l (fun s hs => encS_len s (h s hs))
  unfold ofIn; rw [List.length_cons]; omega
def OMid (w : World) (M : List Nat) (p : Value) (W : World) : Prop :=
  ∃ g5, p = .pointer (some ⟨g5, 0, none⟩) ∧ w.heap.size < g5 ∧ Arr W g5 73 121 (stm M) ∧ Arr W w.heap.size 16 78 (bs (List.replicate 16 0)) ∧ Below w.heap.size w W
theorem OMid.mk {w W : World} {M : List Nat} {g5 : Nat} (hz : Arr W g5 73 121 (sC (List.replicate 8 0) (List.replicate 64 0) 0)) (hlt : w.heap.size < g5) (hd : Arr W w.heap.size 16 78 (bs (List.replicate 16 0))) (hb : Below w.heap.size w W) :
    OMid w M (.pointer (some ⟨g5, 0, none⟩)) (W.setCells g5 0 (stm M)) := by
  have h1 := hz.setCells (o := 0) (stm M)
  rw [setAll_e3 _ (stm_len M)] at h1
  exact ⟨g5, rfl, hlt, h1, hd.only (Only.setCells g5 0 _ W) (by omega), below_setCells _ _ _ hb (by omega)⟩
theorem st_run {P : Program} {W : World} {b n : Nat} {e : TypeId} {xs : List Value} (hA : Arr W b n e xs) (vs : List Value) (hl : vs.length ≤ n) (h1 : ∀ v ∈ vs, v.oneCell' = true) : (storeCells ⟨b, 0, none⟩ vs).run P W = .ok () (W.setCells b 0 vs) := by
  have ht := hA.thereAt (o := 0) (k := vs.length) (by omega)
  have h := run_storeCells_cells (P := P) b 0 vs 0 W (by intro j hj; simpa using (ht j hj).1) (by intro j hj; simpa using (ht j hj).2) h1
  simpa using h
theorem Shut.mk {p : Prop} (h : p) : Shut p := h
theorem bs_take' (l : List Nat) (n : Nat) : (bs l).take n = bs (l.take n) := by simp [bs]
theorem bs_pre (Z : List Nat) (n : Nat) (j : Nat) (v : Value) (hv : (bs (Z.take n))[j]? = some v) : (bs Z)[j]? = some v := by
  rw [← bs_take', List.getElem?_take] at hv
  split at hv
  · exact hv
  · cases hv
theorem info_dig : (Tryd.prog.info? 78).map (·.size) = some 16 := by kernel_rfl
theorem run_toArr (a : Addr) (n c : Nat) (h : 16 ≤ n) (w : World) : (Instr.arrayAt 78 (.slice (some a) n c)).run Tryd.prog w = .ok (.pointer (some a)) w := by
  have hn : ¬ n < 16 := by omega
  simp [Instr.arrayAt, run_underlying Tryd.underlying78, hn]
theorem slice_16 (W : World) (g : Nat) : (Instr.sliceAt 124 (.pointer (some ⟨g, 0, none⟩)) none (some (.int .i64 16)) none).run Tryd.prog W = .ok (.slice (some ⟨g, 0, none⟩) 16 32) W := by
  have e : Tryd.prog.arrayLen 124 = 32 := by kernel_rfl
  have e2 : Tryd.prog.elem 124 = 5 := by kernel_rfl
  have hs : ∀ W, (sizeOf (Tryd.prog.elem 124)).run Tryd.prog W = .ok 1 W := fun _ => by kernel_rfl
  have h := run_sliceAt_array_h (P := Tryd.prog) W 124 ⟨g, 0, none⟩ (by rw [e, e2]; exact Tryd.underlying124) .i64 16 (by omega) (by rw [e]; omega)
  rw [h, hs W, e]
  simp [slicedAt, Addr.add]
theorem zN (X : World) : Arr (X.alloc (.cells zS 121)) X.heap.size 73 121 (sC (List.replicate 8 0) (List.replicate 64 0) 0) := Arr.new' X _ zS 73 _ zS_list zS_len (by decide)
theorem zNT (X : World) (o : Obj) : Arr ((X.alloc (.cells zS 121)).alloc o) X.heap.size 73 121 (sC (List.replicate 8 0) (List.replicate 64 0) 0) := (zN X).later (new_later _ _)
theorem zTN (X : World) (o : Obj) : Arr ((X.alloc o).alloc (.cells zS 121)) (X.heap.size + 1) 73 121 (sC (List.replicate 8 0) (List.replicate 64 0) 0) := by
  have h := zN (X.alloc o)
  rwa [show (X.alloc o).heap.size = X.heap.size + 1 by simp] at h
theorem conv_one (W : World) (t : Nat) (g : Nat) (hr : W.cell? ⟨g, 0, none⟩ = some (.int .u8 (t : Int))) : (convert 69 9 (.slice (some ⟨g, 0, none⟩) 1 1)).run Tryd.prog W = .ok (.string (mkS [t])) W :=
  run_conv W.heap.size 1 1 _ [t] W rfl (.inr ⟨g, 0, rfl, World.block_lt_of_cell? W _ hr, fun j u hu => by
    match j, hu with
    | 0, hu => simp [bs, U8] at hu; subst hu; exact hr⟩)
theorem conv_alloc {w1 : World} (t : Nat) (g : Nat) (hr : w1.cell? ⟨g, 0, none⟩ = some (.int .u8 (t : Int))) (o : Obj) : (convert 69 9 (.slice (some ⟨g, 0, none⟩) 1 1)).run Tryd.prog (w1.alloc o) = .ok (.string (mkS [t])) (w1.alloc o) :=
  conv_one _ t g (((new_later w1 o).cell (p := ⟨g, 0, none⟩) (World.block_lt_of_cell? w1 _ hr)).trans hr)
theorem cT1 {X w1 : World} {T : Nat} (h : Below (X.alloc (.cells #[.int .u8 (T : Int)] 5)).heap.size (X.alloc (.cells #[.int .u8 (T : Int)] 5)) w1) : w1.cell? ⟨X.heap.size, 0, none⟩ = some (.int .u8 (T : Int)) := by
  rw [h.cell (by simp), cell_of_row _ _ _ _ _ (0, 0) (heap_alloc_new X _)]; rfl
theorem cT2 {X w1 : World} {T : Nat} {o : Obj} (h : Below ((X.alloc (.cells #[.int .u8 (T : Int)] 5)).alloc o).heap.size ((X.alloc (.cells #[.int .u8 (T : Int)] 5)).alloc o) w1) : w1.cell? ⟨X.heap.size, 0, none⟩ = some (.int .u8 (T : Int)) :=
  cT1 (later (new_later _ o) h)
theorem cT3 {X w1 : World} {T : Nat} {o : Obj} (h : Below ((X.alloc o).alloc (.cells #[.int .u8 (T : Int)] 5)).heap.size ((X.alloc o).alloc (.cells #[.int .u8 (T : Int)] 5)) w1) : w1.cell? ⟨X.heap.size + 1, 0, none⟩ = some (.int .u8 (T : Int)) := by
  have h2 := cT1 h
  rwa [show (X.alloc o).heap.size = X.heap.size + 1 by simp] at h2
set_option maxHeartbeats 4000000 in
set_option maxRecDepth 100000 in
theorem of_aux (tag : Int) (A : Option Addr) (m cap : Nat) (l : List ByteArray) (Z D : List Nat) (w : World) (htag : InR tag) (hm : m = l.length) (hr : Rd w w.heap.size A (ss l)) (hin : ∀ s ∈ l, s.size ≤ 100000) (hl : m ≤ 1000) (hk : Kc w)
    (HZ : Hid (sha (ofIn tag l) = Z)) (HD : Hid (Z.take 16 = D)) :
    Calls Tryd.prog 43 #[.int .i64 tag, .slice A m cap] w fun e w' => e = .returned (.agg (bs D).toArray) ∧ Below w.heap.size w w' := by
  obtain ⟨T, hT⟩ : ∃ T : Nat, (tag % 256).toNat = T := ⟨_, rfl⟩
  have hT2 : tag % 256 = (T : Int) := by omega
  have hT3 : T < 256 := by omega
  have HM := Lib.hid hm
  have HIN := Lib.hid hin
  have HT := Lib.hid hT
  have K0 : ∀ W, Below w.heap.size w W → Kc W := fun W hW => hk.later hW
  have HK := Lib.hid K0
  have FA1 : Hid (∀ W, Below w.heap.size w W → Calls Tryd.prog 73 #[.agg (stm []).toArray, .string (mkS [T])] W fun e w' => e = .returned (.agg (stm [T]).toArray) ∧ Below W.heap.size W w') := fun W hW => add_call [] [T] (fun d hd => by cases hd) (fun d hd => by rw [List.mem_singleton] at hd; subst hd; exact hT3) W (K0 W hW) (by simp)
  have hwr : IntKind.u8.wrap tag = (T : Int) := by rw [IntKind.wrap_u8']; exact hT2
  have hz := zero_stream
  clear hm hin hT hk K0
  go_enter Tryd.func43, Tryd.ntmps43
  go_upto_region 1 with fail
  have a1 := Arr.new' w 78 #[.int .u8 0, .int .u8 0, .int .u8 0, .int .u8 0, .int .u8 0, .int .u8 0, .int .u8 0, .int .u8 0, .int .u8 0, .int .u8 0, .int .u8 0, .int .u8 0, .int .u8 0, .int .u8 0, .int .u8 0, .int .u8 0] 16 (bs (List.replicate 16 0)) rfl (by simp [bs]) (by decide)
  have hbw := new_later w (.cells #[.int .u8 0, .int .u8 0, .int .u8 0, .int .u8 0, .int .u8 0, .int .u8 0, .int .u8 0, .int .u8 0, .int .u8 0, .int .u8 0, .int .u8 0, .int .u8 0, .int .u8 0, .int .u8 0, .int .u8 0, .int .u8 0] 78)
  generalize hW : w.alloc (.cells #[.int .u8 0, .int .u8 0, .int .u8 0, .int .u8 0, .int .u8 0, .int .u8 0, .int .u8 0, .int .u8 0, .int .u8 0, .int .u8 0, .int .u8 0, .int .u8 0, .int .u8 0, .int .u8 0, .int .u8 0, .int .u8 0] 78) = wa at a1 hbw ⊢
  clear hW
  have hbd : Below w.heap.size w wa.drew := below_drew hbw
  have a1d : Arr wa.drew w.heap.size 16 78 (bs (List.replicate 16 0)) := a1
  go_cut [5] (fun p W => OMid w [T] p W)
  case first =>
    have hcvU := fun W g h => conv_one W T g h
    have hst1 := stm_len [T]
    have hone : ∀ v ∈ stm [T], v.oneCell' = true := sC_cell _ _ _
    have hist := info_stm [T]
    have hwl : w.heap.size < wa.heap.size := a1.lt
    go_region_with (first
      | (go_at_call 72; refine (begin_stm _).mono ?_; rintro e w1 ⟨rfl, hb1⟩
         have U1 : Below w.heap.size w w1 := (by first | exact later hbd hb1 | exact later (later hbd (new_later _ _)) hb1 | exact later (later (later hbd (new_later _ _)) (new_later _ _)) hb1)
         have A1 : Arr w1 w.heap.size 16 78 (bs (List.replicate 16 0)) := (by first | exact a1d.later hb1 | exact (a1d.later (new_later _ _)).later hb1 | exact ((a1d.later (new_later _ _)).later (new_later _ _)).later hb1)
         have L1 : wa.heap.size ≤ w1.heap.size := (by have := hb1.size; (try simp at this); omega)
         try (first | (have z1 : Arr w1 wa.heap.size 73 121 (sC (List.replicate 8 0) (List.replicate 64 0) 0) := (zN wa.drew).later hb1) | (have z1 : Arr w1 wa.heap.size 73 121 (sC (List.replicate 8 0) (List.replicate 64 0) 0) := (zNT wa.drew _).later hb1) | (have z1 : Arr w1 (wa.heap.size + 1) 73 121 (sC (List.replicate 8 0) (List.replicate 64 0) 0) := (zTN wa.drew _).later hb1))
         try (first | (have hc1 : w1.cell? ⟨wa.heap.size, 0, none⟩ = some (.int .u8 (T : Int)) := cT1 (X := wa.drew) hb1) | (have hc1 : w1.cell? ⟨wa.heap.size, 0, none⟩ = some (.int .u8 (T : Int)) := cT2 (X := wa.drew) hb1) | (have hc1 : w1.cell? ⟨wa.heap.size + 1, 0, none⟩ = some (.int .u8 (T : Int)) := cT3 (X := wa.drew) hb1))
         try (have hcvA1 := conv_alloc T _ hc1)
         clear hb1)
      | (go_at_call 73; refine (FA1.out _ (by first | exact U1 | exact later U1 (new_later _ _) | exact later (later U1 (new_later _ _)) (new_later _ _))).mono ?_; rintro e w2 ⟨rfl, hb2⟩
         have U2 : Below w.heap.size w w2 := (by first | exact later U1 hb2 | exact later (later U1 (new_later _ _)) hb2 | exact later (later (later U1 (new_later _ _)) (new_later _ _)) hb2)
         have A2 : Arr w2 w.heap.size 16 78 (bs (List.replicate 16 0)) := (by first | exact A1.later hb2 | exact (A1.later (new_later _ _)).later hb2 | exact ((A1.later (new_later _ _)).later (new_later _ _)).later hb2)
         have L2 : wa.heap.size ≤ w2.heap.size := (by have := hb2.size; (try simp at this); omega)
         have hsN := st_run (P := Tryd.prog) (zN w2) (stm [T]) (by rw [hst1]; omega) hone
         try (first | (have z2 := z1.later hb2) | (have z2 := (z1.later (new_later _ _)).later hb2) | (have z2 := (zN w1).later hb2) | (have z2 := (zNT w1 _).later hb2) | (have z2 := (zTN w1 _).later hb2))
         try (have hs := st_run (P := Tryd.prog) z2 (stm [T]) (by rw [hst1]; omega) hone)
         clear hb2))
    all_goals (go_wp2_with fail; go_meet)
    all_goals (first | exact OMid.mk z2 (by omega) A2 U2 | exact OMid.mk (zN w2) (by omega) (A2.later (new_later _ _)) (later U2 (new_later _ _)))
  case rest =>
    obtain ⟨g5, rfl, hg5, c5, cd, hb⟩ := hcut
    clear a1 hbw hbd a1d
    rw [show [T] = ofIn tag ([] : List ByteArray) from by rw [ofIn_zero, HT.out]] at c5
    clear hwr hT2 hT3 FA1
    go_wp2_with fail
    go_loopw [17] (fun i W => ∃ k : Nat, k ≤ m ∧ i = .int .i64 (k : Int) ∧ Arr W g5 73 121 (stm (ofIn tag (l.take k))) ∧ Arr W w.heap.size 16 78 (bs (List.replicate 16 0)) ∧ Below w.heap.size w W) (fun i _ => m - (intOf i).toNat)
    case atStart => exact ⟨0, Nat.zero_le _, rfl, c5, cd, hb⟩
    case round =>
      obtain ⟨k, hk, rfl, e5, ed, hbk⟩ := hrel
      clear c5 cd hb
      by_cases hlt : k < m
      · have hlt' : k < l.length := by have := HM.out; omega
        obtain ⟨b, o, rfl, _, hc⟩ := (hr.below hbk).at_ (by intro h; have := congrArg List.length h; simp [ss] at this; subst this; simp at hlt')
        have hcell := hc k _ (ss_get l k hlt')
        have hin := HIN.out l[k] (List.getElem_mem hlt')
        rw [List.getElem?_eq_getElem hlt', Option.getD_some] at hcell
        have hsn := ofIn_snoc tag (l.take k) l[k]
        rw [← List.take_succ_eq_append_getElem hlt'] at hsn
        have HSN := Lib.hid hsn
        have hMB := ofIn_all tag (l.take k) (fun s hs => HIN.out s (List.mem_of_mem_take hs))
        have hML := ofIn_len tag (l.take k) (fun s hs => HIN.out s (List.mem_of_mem_take hs))
        have hMk : (l.take k).length ≤ 1000 := by rw [List.length_take]; omega
        have heB := encS_all l[k] (by omega)
        have heL := encS_len l[k] hin
        generalize ofIn tag (l.take k) = M at e5 HSN hMB hML
        generalize l[k] = S at hcell hin HSN heB heL
        have hke := HK.out
        have FB : Hid (∀ W, Calls Tryd.prog 42 #[.string S] W (RowRes (encS S) W)) := fun W => RowRes.of (Bytes_any S W (by omega))
        have FA : Hid (∀ W, Below w.heap.size w W → Calls Tryd.prog 73 #[.agg (stm M).toArray, .string (mkS (encS S))] W fun e w' => e = .returned (.agg (stm (M ++ encS S)).toArray) ∧ Below W.heap.size W w') := fun W hW => add_call M (encS S) hMB heB W (hke W hW) (by omega)
        have hm1 := stm_len (M ++ encS S)
        have hm2 : ∀ v ∈ stm (M ++ encS S), v.oneCell' = true := sC_cell _ _ _
        have hm3 := stm_len M
        have hi3 := info_stm M
        have hkm : (k : Int) < (m : Int) := by omega
        have hk0 : (0 : Int) ≤ (k : Int) := by omega
        clear hc hsn hMB hML hMk heB heL hke hr
        generalize hV : stm (M ++ encS S) = V at *
        have HVV := Lib.hid hV
        clear hV
        generalize stm M = U at *
        have HV := Lib.hid hm1
        go_wp2_with fail
        have hbkd : Below w.heap.size w wr.drew := below_drew hbk
        have e5d : Arr wr.drew g5 73 121 U := e5
        have edd : Arr wr.drew w.heap.size 16 78 (bs (List.replicate 16 0)) := ed
        have hlen : U.length = 73 := hm3
        clear e5 ed hbk
        refine wp_region_any (w := wr) (by kernel_rfl) (show wpAny _ _ _ _ _ _ _ wr.drew from ?_)
        refine wpAny_take (i := 1) (v := .string S) rfl (by kernel_rfl) (by kernel_rfl) (by kernel_rfl) (fun _ _ _ h => h) (Or.inl ⟨by rfl, fun w => by rfl⟩) ?_
        simp only [Act.put, List.setIfInBounds_toArray, List.set_cons_succ, List.set_cons_zero]
        refine wpAny_ready (rs := [0, 2]) (by kernel_rfl) (by simp) ?_
        refine AllReady.cons rfl (fun K hK => ?_) (AllReady.cons rfl (fun K hK => ?_) AllReady.nil)
        · rw [if_pos (by rfl)]
          refine wp_load_mid _ _ rfl g5 0 rfl U _ e5d.range Tryd.underlying121 rfl hi3 ?_
          refine hK _ _ ?_
          clear hK
          clear K
          simp only [Act.put, List.setIfInBounds_toArray, List.set_cons_succ, List.set_cons_zero]
          refine wpAny_ready (rs := [2]) (by kernel_rfl) (by simp) ?_
          refine AllReady.cons rfl (fun K hK => ?_) AllReady.nil
          replace hK := Shut.mk hK
          go_simp
          go_at_call 42
          refine (FB.out _).mono ?_
          rintro e w3 ⟨A3, c3, rfl, hr3, _, _, hb3⟩
          have hb3d : Below w.heap.size w w3 := hbkd.trans (hb3.mono hbkd.size)
          have e53 : Arr w3 g5 73 121 U := e5d.later hb3
          have ed3 : Arr w3 w.heap.size 16 78 (bs (List.replicate 16 0)) := edd.later hb3
          have hcv := run_conv _ _ c3 A3 (encS S) w3 rfl hr3
          refine hK.out _ _ ?_
          clear hK
          clear K hr3 hb3 hbkd e5d edd FB
          refine wpAny_ready (rs := [3]) (by kernel_rfl) (by simp) ?_
          refine AllReady.cons rfl (fun K hK => ?_) AllReady.nil
          replace hK := Shut.mk hK
          go_simp
          refine hK.out _ _ ?_
          clear hK
          clear K hcv
          refine wpAny_ready (rs := [4]) (by kernel_rfl) (by simp) ?_
          refine AllReady.cons rfl (fun K hK => ?_) AllReady.nil
          replace hK := Shut.mk hK
          go_simp
          go_at_call 73
          refine (FA.out _ hb3d).mono ?_
          rintro e w4 ⟨rfl, hb4⟩
          clear FA
          have hb4d : Below w.heap.size w w4 := hb3d.trans (hb4.mono hb3d.size)
          have e54 : Arr w4 g5 73 121 U := e53.later hb4
          have ed4 : Arr w4 w.heap.size 16 78 (bs (List.replicate 16 0)) := ed3.later hb4
          have hs := st_run (P := Tryd.prog) e54 V (by omega) hm2
          refine hK.out _ _ ?_
          clear hK
          clear K hb3d e53 ed3 hb4
          refine wpAny_ready (rs := [5]) (by kernel_rfl) (by simp) ?_
          refine AllReady.cons rfl (fun K hK => ?_) AllReady.nil
          replace hK := Shut.mk hK
          go_simp
          refine hK.out _ _ ?_
          clear hK
          clear K hs
          refine wpAny_done (by kernel_rfl) ?_ _
          have e55 : Arr (w4.setCells g5 0 V) g5 73 121 V := by
            have h := e54.setCells (o := 0) V
            rwa [setAll_all _ _ (by rw [hm1, hlen])] at h
          have ed5 : Arr (w4.setCells g5 0 V) w.heap.size 16 78 (bs (List.replicate 16 0)) := ed4.only (Only.setCells g5 0 _ w4) (by omega)
          have hb5 : Below w.heap.size w (w4.setCells g5 0 V) := below_setCells _ _ _ hb4d (by omega)
          clear e54 ed4 hb4d
          go_wp2_with fail
          go_roundw
          case rel => exact ⟨k + 1, hlt, rfl, by rw [HSN.out, HVV.out]; exact e55, ed5, hb5⟩
          case measure => simp only [intOf]; omega
        · replace hK := Shut.mk hK
          go_simp
          go_at_call 42
          refine (FB.out _).mono ?_
          rintro e w3 ⟨A3, c3, rfl, hr3, _, _, hb3⟩
          have hb3d : Below w.heap.size w w3 := hbkd.trans (hb3.mono hbkd.size)
          have e53 : Arr w3 g5 73 121 U := e5d.later hb3
          have ed3 : Arr w3 w.heap.size 16 78 (bs (List.replicate 16 0)) := edd.later hb3
          have hcv := run_conv _ _ c3 A3 (encS S) w3 rfl hr3
          refine hK.out _ _ ?_
          clear hK
          clear K hr3 hb3 hbkd e5d edd FB
          refine wpAny_ready (rs := [0, 3]) (by kernel_rfl) (by simp) ?_
          refine AllReady.cons rfl (fun K hK => ?_) (AllReady.cons rfl (fun K hK => ?_) AllReady.nil)
          · rw [if_pos (by rfl)]
            refine wp_load_mid _ _ rfl g5 0 rfl U _ e53.range Tryd.underlying121 rfl hi3 ?_
            refine hK _ _ ?_
            clear hK
            clear K
            simp only [Act.put, List.setIfInBounds_toArray, List.set_cons_succ, List.set_cons_zero]
            refine wpAny_ready (rs := [3]) (by kernel_rfl) (by simp) ?_
            refine AllReady.cons rfl (fun K hK => ?_) AllReady.nil
            replace hK := Shut.mk hK
            go_simp
            refine hK.out _ _ ?_
            clear hK
            clear K hcv
            refine wpAny_ready (rs := [4]) (by kernel_rfl) (by simp) ?_
            refine AllReady.cons rfl (fun K hK => ?_) AllReady.nil
            replace hK := Shut.mk hK
            go_simp
            go_at_call 73
            refine (FA.out _ hb3d).mono ?_
            rintro e w4 ⟨rfl, hb4⟩
            clear FA
            have hb4d : Below w.heap.size w w4 := hb3d.trans (hb4.mono hb3d.size)
            have e54 : Arr w4 g5 73 121 U := e53.later hb4
            have ed4 : Arr w4 w.heap.size 16 78 (bs (List.replicate 16 0)) := ed3.later hb4
            have hs := st_run (P := Tryd.prog) e54 V (by omega) hm2
            refine hK.out _ _ ?_
            clear hK
            clear K hb3d e53 ed3 hb4
            refine wpAny_ready (rs := [5]) (by kernel_rfl) (by simp) ?_
            refine AllReady.cons rfl (fun K hK => ?_) AllReady.nil
            replace hK := Shut.mk hK
            go_simp
            refine hK.out _ _ ?_
            clear hK
            clear K hs
            refine wpAny_done (by kernel_rfl) ?_ _
            have e55 : Arr (w4.setCells g5 0 V) g5 73 121 V := by
              have h := e54.setCells (o := 0) V
              rwa [setAll_all _ _ (by rw [hm1, hlen])] at h
            have ed5 : Arr (w4.setCells g5 0 V) w.heap.size 16 78 (bs (List.replicate 16 0)) := ed4.only (Only.setCells g5 0 _ w4) (by omega)
            have hb5 : Below w.heap.size w (w4.setCells g5 0 V) := below_setCells _ _ _ hb4d (by omega)
            clear e54 ed4 hb4d
            go_wp2_with fail
            go_roundw
            case rel => exact ⟨k + 1, hlt, rfl, by rw [HSN.out, HVV.out]; exact e55, ed5, hb5⟩
            case measure => simp only [intOf]; omega
          · replace hK := Shut.mk hK
            go_simp
            refine hK.out _ _ ?_
            clear hK
            clear K hcv
            refine wpAny_ready (rs := [0]) (by kernel_rfl) (by simp) ?_
            refine AllReady.cons rfl (fun K hK => ?_) AllReady.nil
            rw [if_pos (by rfl)]
            refine wp_load_mid _ _ rfl g5 0 rfl U _ e53.range Tryd.underlying121 rfl hi3 ?_
            refine hK _ _ ?_
            clear hK
            clear K
            simp only [Act.put, List.setIfInBounds_toArray, List.set_cons_succ, List.set_cons_zero]
            refine wpAny_ready (rs := [4]) (by kernel_rfl) (by simp) ?_
            refine AllReady.cons rfl (fun K hK => ?_) AllReady.nil
            replace hK := Shut.mk hK
            go_simp
            go_at_call 73
            refine (FA.out _ hb3d).mono ?_
            rintro e w4 ⟨rfl, hb4⟩
            clear FA
            have hb4d : Below w.heap.size w w4 := hb3d.trans (hb4.mono hb3d.size)
            have e54 : Arr w4 g5 73 121 U := e53.later hb4
            have ed4 : Arr w4 w.heap.size 16 78 (bs (List.replicate 16 0)) := ed3.later hb4
            have hs := st_run (P := Tryd.prog) e54 V (by omega) hm2
            refine hK.out _ _ ?_
            clear hK
            clear K hb3d e53 ed3 hb4
            refine wpAny_ready (rs := [5]) (by kernel_rfl) (by simp) ?_
            refine AllReady.cons rfl (fun K hK => ?_) AllReady.nil
            replace hK := Shut.mk hK
            go_simp
            refine hK.out _ _ ?_
            clear hK
            clear K hs
            refine wpAny_done (by kernel_rfl) ?_ _
            have e55 : Arr (w4.setCells g5 0 V) g5 73 121 V := by
              have h := e54.setCells (o := 0) V
              rwa [setAll_all _ _ (by rw [hm1, hlen])] at h
            have ed5 : Arr (w4.setCells g5 0 V) w.heap.size 16 78 (bs (List.replicate 16 0)) := ed4.only (Only.setCells g5 0 _ w4) (by omega)
            have hb5 : Below w.heap.size w (w4.setCells g5 0 V) := below_setCells _ _ _ hb4d (by omega)
            clear e54 ed4 hb4d
            go_wp2_with fail
            go_roundw
            case rel => exact ⟨k + 1, hlt, rfl, by rw [HSN.out, HVV.out]; exact e55, ed5, hb5⟩
            case measure => simp only [intOf]; omega
      · have hkm : k = m := by omega
        subst hkm
        have hlen : l.take k = l := List.take_of_length_le (by have := HM.out; omega)
        rw [hlen] at e5
        have hi3 := info_stm (ofIn tag l)
        have hML := ofIn_len tag l (fun s hs => HIN.out s hs)
        have hMB := ofIn_all tag l (fun s hs => HIN.out s hs)
        have hke := HK.out
        have SS : Hid (∀ W, Below w.heap.size w W → Calls Tryd.prog 74 #[.agg (stm (ofIn tag l)).toArray] W fun e w' => e = .returned (.agg (bs Z).toArray) ∧ Below W.heap.size W w') := fun W hW => by
          have h := ssum_any (ofIn tag l) hMB W (hke W hW) (by have := HM.out; omega)
          rw [HZ.out] at h; exact h
        have HBL := Lib.hid (show (bs Z).length = 32 by rw [bs_len, ← HZ.out, sha_len])
        have HDL := Lib.hid (show (bs D).length = 16 by rw [bs_len, ← HD.out, List.length_take, ← HZ.out, sha_len]; rfl)
        have HTK := Lib.hid (show ∀ j v, (bs D)[j]? = some v → (bs Z)[j]? = some v from by have h := bs_pre Z 16; rw [HD.out] at h; exact h)
        clear hML hMB hke hr hlen HM HIN HK HT htag hl HZ
        generalize stm (ofIn tag l) = U at *
        have hkk : ((k : Int) < (k : Int)) = False := by simp
        go_wp2_with (first
          | (refine wpList_load_mid rfl _ (.tmp 5) rfl g5 0 rfl U _ e5.range Tryd.underlying121 rfl hi3 ?_)
          | (go_at_call 74; refine (SS.out _ hbk).mono ?_; rintro e w2 ⟨rfl, hb2⟩; have V2 : Below w.heap.size w w2 := hbk.trans (hb2.mono hbk.size); have B2 := ed.later hb2)
          | (refine wpList_store_new rfl _ (.tmp 8) (.tmp 28) rfl rfl rfl info_sum HBL.out rfl (all_oneCell_toArray (bs_cell Z)) ?_; intro w6 hbel6 hrow6 hsz6; have A6 : Arr w6 w2.heap.size 32 124 (bs Z) := Arr.of_row hrow6 HBL.out (by decide); have hrD : w6.rangeAt w2.heap.size 0 (bs D) := fun j v hv => A6.range j v (HTK.out j v hv); have hsl := slice_16 w6 w2.heap.size; have hta := run_toArr ⟨w2.heap.size, 0, none⟩ 16 32 (by omega) w6; have B6 := B2.later hbel6; have V6 : Below w.heap.size w w6 := V2.trans (hbel6.mono V2.size))
          | (refine wpList_load_mid rfl _ (.tmp 30) rfl w2.heap.size 0 rfl (bs D) _ hrD Tryd.underlying78 rfl (by rw [HDL.out]; exact info_dig) ?_)
          | (refine wpList_store_arr rfl _ (.tmp 4) (.tmp 31) rfl w.heap.size 0 16 _ _ (bs D) _ rfl rfl rfl B6 (by rw [HDL.out]; omega) (by rw [HDL.out]; exact info_dig) (bs_cell D) ?_; intro w7 f7 o7; have V7 := V6.trans o7.bel; rw [setAll_all _ _ (by rw [HDL.out]; simp [bs])] at f7))
        exact bodyPost_ret (hresults_one rfl _ _ w.heap.size (bs D) _ rfl f7.range Tryd.underlying78 rfl (by rw [HDL.out]; exact info_dig)) rfl ⟨rfl, V7⟩
theorem hOf_any (tag : Int) (A : Option Addr) (m cap : Nat) (l : List ByteArray) (w : World) (htag : InR tag) (hm : m = l.length) (hr : Rd w w.heap.size A (ss l)) (hin : ∀ s ∈ l, s.size ≤ 100000) (hl : m ≤ 1000) (hk : Kc w) :
    Calls Tryd.prog 43 #[.int .i64 tag, .slice A m cap] w fun e w' => e = .returned (.agg (bs ((sha (ofIn tag l)).take 16)).toArray) ∧ Below w.heap.size w w' :=
  of_aux tag A m cap l _ _ w htag hm hr hin hl hk (Lib.hid rfl) (Lib.hid rfl)
end Go.Proofs.YtjbleefpafnhhaaDoor

