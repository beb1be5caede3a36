import Derived.Test.YtbfoajfpnfkfnaaDoorH5
set_option linter.unusedVariables false
namespace Go.Proofs.YtbfoajfpnfkfnaaDoor
open Go.RowKit

def szOf (v : Value) : Nat := match v with | .string s => s.size | _ => 0
theorem szOf_str (s : ByteArray) : szOf (.string s) = s.size := rfl
theorem setAll_all (ys vs : List Value) (h : vs.length = ys.length) : setAll ys 0 vs = vs := by
  rw [setAll_eq _ _ _ (by omega), List.drop_of_length_le (by omega)]; simp
theorem app_len (x y : List Nat) : (x ++ y).length = x.length + y.length := List.length_append
theorem add_mid (g o k : Nat) : (⟨g, o, none⟩ : Addr).add k = ⟨g, o + k, none⟩ := by unfold Addr.add; split <;> simp_all
theorem slice_block (W : World) (g o R : Nat) (hR : R < 64) : (Instr.sliceAt 31 (.pointer (some ⟨g, o, none⟩)) (some (.int .u64 (R : Int))) none none).run Tryd.prog W = .ok (.slice (some ⟨g, o + R, none⟩) (64 - R) (64 - R)) W := by
  have e : Tryd.prog.arrayLen 31 = 64 := by kernel_rfl
  have e2 : Tryd.prog.elem 31 = 5 := by kernel_rfl
  have hs : ∀ W, (sizeOf (Tryd.prog.elem 31)).run Tryd.prog W = .ok 1 W := fun _ => by kernel_rfl
  have h := run_sliceAt_array_l (P := Tryd.prog) W 31 ⟨g, o, none⟩ (by rw [e, e2]; exact Tryd.underlying31) .u64 (R : Int) (by omega) (by rw [e]; omega)
  rw [h, hs W]
  have hne : ¬ 64 = R := by omega
  simp [slicedAt, e, hne, add_mid]
theorem slice_all (W : World) (t : TypeId) (n : Nat) (g o : Nat) (e : Tryd.prog.arrayLen t = n) (e2 : Tryd.prog.elem t = 5) (ht : Tryd.prog.underlying t = some (.array n 5)) (hn : 0 < n) : (Instr.sliceAt t (.pointer (some ⟨g, o, none⟩)) none none none).run Tryd.prog W = .ok (.slice (some ⟨g, o, none⟩) n n) W := by
  have hs : ∀ W, (sizeOf 5).run Tryd.prog W = .ok 1 W := fun _ => by kernel_rfl
  have h := run_sliceAt_array_all (P := Tryd.prog) W t ⟨g, o, none⟩ (by rw [e, e2]; exact ht)
  rw [h, e2, hs W]
  have hne : ¬ n = 0 := by omega
  simp [slicedAt, e, hne, add_mid]
theorem info_stm (m : List Nat) : (Tryd.prog.info? 34).map (·.size) = some (stm m).length := by rw [stm_len]; exact info_stream
theorem stm_get (m : List Nat) : (stm m)[72]? = some (.int .u64 (m.length : Int)) := sC_len_get _ _ _ (sWords_len m) (sBlock_len m)
theorem ne_empty {T : ByteArray} (h : T.size ≠ 0) : (T.toList == ([] : List UInt8)) = false := by
  rw [ByteArray.toList_eq]
  cases hl : T.data.toList with
  | nil => exact absurd (by have := congrArg List.length hl; simpa using this) h
  | cons a l => rfl
theorem AllB.app {x y : List Nat} (h : AllB x) (h' : AllB y) : AllB (x ++ y) := fun d hd => by
  rcases List.mem_append.1 hd with h1 | h1
  · exact h d h1
  · exact h' d h1
theorem AllB.take {x : List Nat} (h : AllB x) (n : Nat) : AllB (x.take n) := fun d hd => h d (List.mem_of_mem_take hd)

set_option maxHeartbeats 2000000 in
set_option maxRecDepth 100000 in
theorem add_any (m : List Nat) (hm : AllB m) (text : ByteArray) (w : World) (hk : Kc w) (hsz : m.length + text.size ≤ 1125899906842624) :
    Calls Tryd.prog 18 #[.agg (stm m).toArray, .string text] w fun e w' => e = .returned (.agg (stm (m ++ sb text)).toArray) ∧ Below w.heap.size w w' := by
  have HS := Lib.hid (stm_len m)
  have HK := Lib.hid hk
  have HM := Lib.hid hm
  clear hk hm
  go_enter Tryd.func18, Tryd.ntmps18
  have hz := zero_stream
  go_wp2_with fail
  obtain ⟨a1, a2, hbw⟩ := two_new w 34 34 (stm m).toArray zS _ _ 73 73 rfl zS_list HS.out zS_len (by decide) (by decide)
  generalize hW : (w.alloc (.cells (stm m).toArray 34)).alloc (.cells zS 34) = wc at a1 a2 hbw ⊢
  clear hW hz
  go_loopw [1] (fun t W => ∃ (T : ByteArray) (done : List Nat), t = .string T ∧ Hid (sb text = done ++ sb T) ∧ done.length + T.size ≤ text.size ∧ Arr W w.heap.size 73 34 (stm (m ++ done)) ∧ Arr W (w.heap.size + 1) 73 34 (sC (List.replicate 8 0) (List.replicate 64 0) 0) ∧ Below w.heap.size w W)
    (fun t _ => szOf t)
  case atStart => exact ⟨text, [], rfl, Lib.hid rfl, by simp, by simpa using a1, a2, hbw⟩
  case round =>
    obtain ⟨T, done, rfl, HT, hlen, c1, c2, hb⟩ := hrel
    clear a1 a2 hbw
    by_cases h0 : T.size = 0
    · have hT0 := sb_empty T h0
      have hmt : (T.toList == ([] : List UInt8)) = true := by
        have : T.toList = [] := by rw [ByteArray.toList_eq]; exact List.eq_nil_of_length_eq_zero (by simpa using h0)
        rw [this]; rfl
      have hfin : Hid (stm (m ++ done) = stm (m ++ sb text)) := by show stm _ = stm _; rw [HT.out, hT0, List.append_nil]
      rw [hfin.out] at c1
      have hR := Lib.hid c1.range
      have HI := Lib.hid (info_stm (m ++ sb text))
      have HSC : Hid (∀ v ∈ stm (m ++ sb text), v.oneCell' = true) := sC_cell _ _ _
      have HL3 := Lib.hid (stm_len (m ++ sb text))
      obtain ⟨V, hV⟩ : ∃ V, stm (m ++ sb text) = V := ⟨_, rfl⟩
      rw [hV] at hR HI HSC HL3
      have HV := Lib.hid hV
      clear hT0 c1 hfin hV
      go_wp2_with (first
        | (with_reducible refine wpList_load_mid rfl _ (.tmp 2) rfl w.heap.size 0 rfl V _ hR.out Tryd.underlying34 rfl HI.out ?_)
        | (refine wpList_store_arr rfl _ (.tmp 4) (.tmp 30) rfl (w.heap.size + 1) 0 73 34 _ V _ rfl rfl rfl c2 (by rw [HL3.out]; omega) HI.out HSC.out ?_; intro w6 f2 o6; have hbw6 := hb.trans (o6.bel.mono (by omega : w.heap.size ≤ w.heap.size + 1)); rw [setAll_e3 _ HL3.out] at f2))
      exact bodyPost_ret (results_one rfl _ _ (w.heap.size + 1) V _ rfl f2.range Tryd.underlying34 rfl HI.out) rfl ⟨by rw [HV.out], hbw6⟩
    · have hmt := ne_empty h0
      have hML : (m ++ done).length ≤ 1125899906842624 := by rw [List.length_append]; omega
      have hMT : (m ++ done).length + T.size ≤ 1125899906842624 := by rw [List.length_append]; omega
      have HMB : Hid (AllB (m ++ done)) := by
        have h1 : AllB (sb text) := sb_lt text
        have h2 := HT.out
        exact AllB.app HM.out (fun d hd => h1 d (by rw [h2]; exact List.mem_append_left _ hd))
      have hcl := c1.cell (stm_get (m ++ done))
      have hfl := c1.free 72
      obtain ⟨R, hRd⟩ : ∃ R, (m ++ done).length % 64 = R := ⟨_, rfl⟩
      have hR64 : R < 64 := by omega
      have hmod : ((m ++ done).length : Int) % 64 = (R : Int) := by omega
      obtain ⟨n, hn⟩ : ∃ n, Nat.min T.size (64 - R) = n := ⟨_, rfl⟩
      have hnT : n ≤ T.size := by rw [← hn]; exact Nat.min_le_left _ _
      have hnR : n ≤ 64 - R := by rw [← hn]; exact Nat.min_le_right _ _
      have hn1 : 1 ≤ n := by rw [← hn]; show 1 ≤ min T.size (64 - R); omega
      have hxl : ((sb T).take n).length = n := by rw [List.length_take, sb_len]; omega
      have hR64' : ¬ 64 = R := by omega
      have HT2 : Hid (sb text = (done ++ (sb T).take n) ++ sb (T.extract n T.size)) := by
        show sb text = _
        rw [sb_extract, List.append_assoc, List.take_append_drop]; exact HT.out
      have hTs : (T.extract n T.size).size = T.size - n := by rw [← sb_len, sb_extract, List.length_drop, sb_len]
      have hxB : AllB ((sb T).take n) := AllB.take (sb_lt T) n
      have happ : m ++ (done ++ (sb T).take n) = (m ++ done) ++ (sb T).take n := by rw [List.append_assoc]
      have HAPP := Lib.hid happ
      have HXL := Lib.hid hxl
      have HXB := Lib.hid hxB
      have HTS := Lib.hid hTs
      have HRD := Lib.hid hRd
      have HN := Lib.hid hn
      have HML : Hid ((m ++ done).length + n = ((m ++ done) ++ (sb T).take n).length) := by
        show (m ++ done).length + n = ((m ++ done) ++ (sb T).take n).length
        have h := app_len (m ++ done) ((sb T).take n)
        rw [h, HXL.out]
      clear happ hxl hxB hTs hRd hn
      obtain ⟨x, hx⟩ : ∃ x, (sb T).take n = x := ⟨_, rfl⟩
      rw [hx] at HT2 HAPP HXL HXB HML
      have HXD := Lib.hid hx
      clear hx
      generalize hM : m ++ done = M at *
      generalize hLg : M.length = L at *
      have HLG := Lib.hid hLg
      clear hM hLg HT HM HS
      have hsum : IntKind.u64.wrap ((L : Int) + (n : Int)) = (L : Int) + (n : Int) := by simp [IntKind.wrap_u64]; omega
      by_cases hfull : n = 64 - R
      · have hz0 : ((((L : Int) + (n : Int)) % 64) == 0) = true := by simp; omega
        have d0 := stm_full M x R (by rw [HLG.out, HRD.out]) (by rw [HXL.out]; omega)
        obtain ⟨e1, e2⟩ := sAdd_full M x (by rw [HLG.out, HRD.out, HXL.out]; omega)
        have hbl : (sRest M ++ x).length = 64 := by rw [List.length_append, sRest_len, HLG.out, HRD.out, HXL.out]; omega
        have hba : AllB (sRest M ++ x) := AllB.app (sRest_all HMB.out) HXB.out
        have hfin : sC (comp (sWords M) (sRest M ++ x)) (List.replicate 64 0) (L + n) = stm (M ++ x) := by
          unfold stm; rw [e1, e2, HML.out]
        have HF : Hid (∀ W, Kc W → Calls Tryd.prog 40 #[.agg (sC (sWords M) (sRest M ++ x) (L + n)).toArray] W fun e w' => e = .returned (.agg (stm (M ++ x)).toArray) ∧ Below W.heap.size W w') := fun W hW => by
          rw [← hfin]; exact flush_any _ _ _ (sWords_len M) (sWords_all M) hbl hba W hW
        rw [HLG.out] at d0
        have D0 := Lib.hid d0
        have D1 : Hid ((sC (sWords M) (sRest M ++ x) L).set 72 (.int .u64 ((L : Int) + (n : Int))) = sC (sWords M) (sRest M ++ x) (L + n)) := by
          have h := sC_setLen (sWords M) (sRest M ++ x) L (L + n) (sWords_len M) hbl
          rw [Int.natCast_add] at h
          exact h
        have D2 := Lib.hid (sC_len_get (sWords M) (sRest M ++ x) L (sWords_len M) hbl)
        have HI1 : Hid ((Tryd.prog.info? 34).map (·.size) = some (sC (sWords M) (sRest M ++ x) (L + n)).length) := by
          show (Tryd.prog.info? 34).map (·.size) = some (sC (sWords M) (sRest M ++ x) (L + n)).length
          rw [sC_len _ _ _ (sWords_len M) hbl]; exact info_stream
        have HI2 := Lib.hid (info_stm (M ++ x))
        have HL2 := Lib.hid (stm_len (M ++ x))
        have HSC2 : Hid (∀ v ∈ stm (M ++ x), v.oneCell' = true) := sC_cell _ _ _
        clear d0 e1 e2 hbl hba hfin
        obtain ⟨V, hV⟩ : ∃ V, stm (M ++ x) = V := ⟨_, rfl⟩
        obtain ⟨Y, hY⟩ : ∃ Y, sC (sWords M) (sRest M ++ x) (L + n) = Y := ⟨_, rfl⟩
        obtain ⟨X, hX⟩ : ∃ X, sC (sWords M) (sRest M ++ x) L = X := ⟨_, rfl⟩
        obtain ⟨U, hU⟩ : ∃ U, stm M = U := ⟨_, rfl⟩
        rw [hV] at HF HI2 HL2 HSC2
        rw [hY] at HF D1 HI1
        rw [hX] at D0 D1 D2
        rw [hU] at D0 c1
        have HV := Lib.hid hV
        have HYL : Hid (73 = Y.length) := by show 73 = Y.length; rw [← hY, sC_len _ _ _ (sWords_len M) (by rw [List.length_append, sRest_len, HLG.out, HRD.out, HXL.out]; omega)]
        clear hV hY hX hU
        have hsl := slice_block wr w.heap.size 8 R hR64
        have HFU := Lib.hid hfull
        clear hfull
        go_wp2_with (first
          | (refine wpList_copyS rfl (.tmp 12) (.tmp 13) _ _ rfl 5 Tryd.underlying22 info_u8s w.heap.size (8 + R) (64 - R) (64 - R) n 73 34 _ T rfl rfl HN.out c1 (by omega) ?_; intro w3 d1 o3; rw [HXD.out, D0.out] at d1; have hc72 := d1.cell D2.out; have hf72 := d1.free 72; have d4 := d1.set_ 72 (.int .u64 ((L : Int) + (n : Int))); rw [D1.out] at d4; have hR4 := Lib.hid d4.range; have hb4 : Below w.heap.size w (w3.setCell ⟨w.heap.size, 72, none⟩ (.int .u64 ((L : Int) + (n : Int)))) := (hb.trans o3.bel).setCell (Nat.le_refl _) _; have c4 := (c2.only o3 (by omega)).other (j := 72) (b := w.heap.size) (by omega) (.int .u64 ((L : Int) + (n : Int))); have hk4 := HK.out.later hb4; clear d1 o3 c1 c2 hb)
          | (with_reducible refine wpList_load_mid rfl _ (.tmp 2) rfl w.heap.size 0 rfl Y _ hR4.out Tryd.underlying34 rfl HI1.out ?_)
          | (go_at_call 40; refine (HF.out _ hk4).mono ?_; rintro e w5 ⟨rfl, hb5⟩; have d5 := d4.later hb5; have c5 := c4.later hb5; have hbw5 := later hb4 hb5; clear d4 c4 hb4 hb5 hR4)
          | (refine wpList_store_arr rfl _ (.tmp 2) (.tmp 29) rfl w.heap.size 0 73 34 _ V _ rfl rfl rfl d5 (by rw [HL2.out]; omega) HI2.out HSC2.out ?_; intro w6 f6 o6; have c6 := c5.only o6 (by omega); have hbw6 := hbw5.trans o6.bel; clear d5 c5 hbw5 o6))
        go_frame
        go_roundw
        case rel =>
          refine ⟨_, done ++ x, rfl, HT2, by have := HTS.out; have := HXL.out; rw [List.length_append]; omega, ?_, c6, hbw6⟩
          rw [HAPP.out, HV.out]
          rw [setAll_all _ _ (by have := f6.1; have h2 := HL2.out; rw [h2]; exact HYL.out)] at f6
          exact f6
        case measure =>
          have := HTS.out
          rw [szOf_str, szOf_str]
          omega
      · have hnT2 : n + R < 64 := by have := HN.out; have h3 : min T.size (64 - R) = n := this; omega
        have hz0 : ((((L : Int) + (n : Int)) % 64) == 0) = false := by
          have h1 : ((L : Int) + (n : Int)) % 64 = (R : Int) + (n : Int) := by omega
          rw [h1]; simp; omega
        have d0 := stm_part M x R (by rw [HLG.out, HRD.out]) (by rw [HXL.out]; omega)
        have HST : Hid (sC (sWords (M ++ x)) (sBlock (M ++ x)) (L + n) = stm (M ++ x)) := by
          show sC (sWords (M ++ x)) (sBlock (M ++ x)) (L + n) = stm (M ++ x)
          unfold stm; rw [HML.out]
        rw [HLG.out] at d0
        have D0 := Lib.hid d0
        have D1 : Hid ((sC (sWords (M ++ x)) (sBlock (M ++ x)) L).set 72 (.int .u64 ((L : Int) + (n : Int))) = sC (sWords (M ++ x)) (sBlock (M ++ x)) (L + n)) := by
          have h := sC_setLen (sWords (M ++ x)) (sBlock (M ++ x)) L (L + n) (sWords_len _) (sBlock_len _)
          rw [Int.natCast_add] at h
          exact h
        have D2 := Lib.hid (sC_len_get (sWords (M ++ x)) (sBlock (M ++ x)) L (sWords_len _) (sBlock_len _))
        clear d0
        obtain ⟨Y, hY⟩ : ∃ Y, sC (sWords (M ++ x)) (sBlock (M ++ x)) (L + n) = Y := ⟨_, rfl⟩
        obtain ⟨X, hX⟩ : ∃ X, sC (sWords (M ++ x)) (sBlock (M ++ x)) L = X := ⟨_, rfl⟩
        obtain ⟨U, hU⟩ : ∃ U, stm M = U := ⟨_, rfl⟩
        rw [hY] at D1 HST
        rw [hX] at D0 D1 D2
        rw [hU] at D0 c1
        clear hY hX hU hfull
        have hsl := slice_block wr w.heap.size 8 R hR64
        go_wp2_with (refine wpList_copyS rfl (.tmp 12) (.tmp 13) _ _ rfl 5 Tryd.underlying22 info_u8s w.heap.size (8 + R) (64 - R) (64 - R) n 73 34 _ T rfl rfl HN.out c1 (by omega) ?_; intro w3 d1 o3; rw [HXD.out, D0.out] at d1; have hc72 := d1.cell D2.out; have hf72 := d1.free 72; have d4 := d1.set_ 72 (.int .u64 ((L : Int) + (n : Int))); rw [D1.out] at d4; have hb4 : Below w.heap.size w (w3.setCell ⟨w.heap.size, 72, none⟩ (.int .u64 ((L : Int) + (n : Int)))) := (hb.trans o3.bel).setCell (Nat.le_refl _) _; have c4 := (c2.only o3 (by omega)).other (j := 72) (b := w.heap.size) (by omega) (.int .u64 ((L : Int) + (n : Int))); clear d1 o3 c1 c2 hb)
        go_roundw
        case rel =>
          refine ⟨_, done ++ x, rfl, HT2, by have := HTS.out; have := HXL.out; rw [List.length_append]; omega, ?_, c4, hb4⟩
          rw [HAPP.out, ← HST.out]
          exact d4
        case measure =>
          have := HTS.out
          rw [szOf_str, szOf_str]
          omega
end Go.Proofs.YtbfoajfpnfkfnaaDoor
