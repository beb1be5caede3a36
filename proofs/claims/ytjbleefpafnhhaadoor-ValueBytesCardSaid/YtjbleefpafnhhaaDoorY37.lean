import Derived.Test.YtjbleefpafnhhaaDoorY35
import Derived.Test.YtjbleefpafnhhaaDoorY36
import Derived.Lib.LazyBuf
import Derived.Lib.IndexBytes
set_option linter.unusedVariables false
namespace Go.Proofs.YtjbleefpafnhhaaDoor
open Go.RowKit
theorem bs_sb_take (T : ByteArray) (n : Nat) : (T.data.toList.map fun x => Value.int .u8 (x.toNat : Int)).take n = bs ((sb T).take n) := by
  simp [bs, sb, U8, List.map_take, List.map_map, Function.comp_def]
theorem run_copy_pre {P : Program} (w : World) (dT sT ty elem : TypeId) (b o dLen dCap n : Nat) (t : ByteArray)
    (hu : P.underlying dT = some (.slice elem)) (hz : (P.info? elem).map (·.size) = some 1) (hn : Nat.min t.size dLen = n) (ht : w.there b o n) :
    (Builtin.copy_ #[dT, sT] ty #[.slice (some ⟨b, o, none⟩) dLen dCap, .string t]).run P w = .ok (goInt n) (w.setCells b o (bs ((sb t).take n))) := by
  obtain ⟨i0, hi0, _⟩ := Option.map_eq_some_iff.1 hz
  have hnt : n ≤ t.size := by rw [← hn]; exact Nat.min_le_left _ _
  have hl : (bs ((sb t).take n)).length = n := by rw [bs_len, List.length_take, sb_len]; omega
  have hst := run_storeCells_cells (P := P) b o (bs ((sb t).take n)) 0 w (by rw [hl]; intro j hj; simpa using (ht j hj).1) (by rw [hl]; intro j hj; simpa using (ht j hj).2) (bs_cell _)
  rw [← bs_sb_take] at hst
  simp [Builtin.copy_, run_underlying hu, Builtin.lenOf, Builtin.firstCells, sizeOf, typeInfo, hi0, hn]
  rw [hst, bs_sb_take]
  rfl
theorem wpList_copyS {P : Program} {ops : Array Oper} {rest : List Oper} {o : Oper} {a : Act} {w : World} {Q : Exit → Act → World → Prop} (hgd : o.guard = none) (d s : Operand) (dT sT : TypeId)
    (ho : o.op = .call { callee := .builtin .copy, args := #[d, s], argTypes := #[dT, sT] }) (elem : TypeId) (hu : P.underlying dT = some (.slice elem)) (hz : (P.info? elem).map (·.size) = some 1)
    (g off dLen dCap n nn : Nat) (e : TypeId) (xs : List Value) (T : ByteArray) (hd : a.eval d = .slice (some ⟨g, off, none⟩) dLen dCap) (hs : a.eval s = .string T) (hn : Nat.min T.size dLen = n)
    (hA : Arr w g nn e xs) (hfit : off + n ≤ nn)
    (h : ∀ w', Arr w' g nn e (setAll xs off (bs ((sb T).take n))) → Only g w w' → wpList P ops Q rest (a.put o.dst (goInt n)) w') : wpList P ops Q (o :: rest) a w := by
  have hrun := run_copy_pre (P := P) w dT sT o.type elem g off dLen dCap n T hu hz hn (hA.thereAt hfit)
  refine wpList_plain hgd fun K hK => ?_
  unfold Oper.wp execOp
  simp only [ho, resolve, invoke, builtin, Sem.run_bind, Sem.run_pure, Result.andThen_ok, List.map_toArray, List.map_cons, List.map_nil, hd, hs, hrun]
  exact hK _ _ (h _ (hA.setCells _) (Only.setCells g off _ w))
set_option maxHeartbeats 1000000 in
set_option maxRecDepth 100000 in
theorem begin_any (w : World) :
    Calls Tryd.prog 72 #[] w fun e w' => e = .returned (.agg (sC h0 (List.replicate 64 0) 0).toArray) ∧ Below w.heap.size w w' := by
  have hz := zero_stream
  have hL : Hid ((sC h0 (List.replicate 64 0) 0).length = 73) := sC_len _ _ _ rfl (by simp)
  have hI : Hid ((Tryd.prog.info? 121).map (·.size) = some (sC h0 (List.replicate 64 0) 0).length) := by
    show (Tryd.prog.info? 121).map (·.size) = some (sC h0 (List.replicate 64 0) 0).length
    rw [hL.out]; exact info_stream
  go_enter Tryd.func72, Tryd.ntmps72
  go_upto_region 1 with fail
  have a1 := Arr.new' w 121 zS 73 _ zS_list zS_len (by decide)
  have hbw := new_later w (.cells zS 121)
  generalize hW : w.alloc (.cells zS 121) = wc at a1 hbw ⊢
  clear hW
  have hz8 : ¬ zS.size < 8 := by decide
  go_wp2_with (refine wpList_store_arr rfl _ (.tmp 0) (.tmp 2) rfl w.heap.size 0 73 121 _ (sC h0 (List.replicate 64 0) 0) _ rfl rfl rfl a1 (by rw [hL.out]; omega) hI.out (sC_cell _ _ _) ?_; intro w6 f2 o6; have hbw6 := hbw.trans o6.bel; rw [setAll_e3 _ hL.out] at f2)
  exact bodyPost_ret (hresults_one rfl _ _ w.heap.size (sC h0 (List.replicate 64 0) 0) _ rfl f2.range Tryd.underlying121 rfl hI.out) rfl ⟨rfl, hbw6⟩
def stm (m : List Nat) : List Value := sC (sWords m) (sBlock m) m.length
theorem stm_len (m : List Nat) : (stm m).length = 73 := sC_len _ _ _ (sWords_len m) (sBlock_len m)
theorem split_rest (m : List Nat) : stm m = (us (sWords m) ++ bs (sRest m)) ++ bs (List.replicate (64 - m.length % 64) 0) ++ [.int .u64 (m.length : Int)] := by
  unfold stm sC sBlock; rw [bs_app]; simp
theorem sb_extract (T : ByteArray) (n : Nat) : sb (T.extract n T.size) = (sb T).drop n := by
  unfold sb
  rw [Lib.extract_to_end, List.map_drop]
theorem sb_empty (T : ByteArray) (h : T.size = 0) : sb T = [] := List.eq_nil_of_length_eq_zero (by rw [sb_len]; exact h)
theorem stm_part (m x : List Nat) (k : Nat) (hk : k = m.length % 64) (h : k + x.length < 64) : setAll (stm m) (8 + k) (bs x) = sC (sWords (m ++ x)) (sBlock (m ++ x)) m.length := by
  subst hk
  obtain ⟨e1, e2⟩ := sAdd_part m x h
  have hr : List.replicate (64 - m.length % 64) 0 = List.replicate x.length 0 ++ List.replicate (64 - m.length % 64 - x.length) 0 := by
    rw [List.replicate_append_replicate]; congr 1; omega
  have hs : stm m = (us (sWords m) ++ bs (sRest m)) ++ bs (List.replicate x.length 0) ++ (bs (List.replicate (64 - m.length % 64 - x.length) 0) ++ [.int .u64 (m.length : Int)]) := by
    rw [split_rest, hr, bs_app]; simp
  rw [hs, setAll_mid _ _ _ _ _ (by rw [List.length_append, us_len, sWords_len, bs_len, sRest_len]) (by rw [bs_len, bs_len, List.length_replicate]), e1, e2]
  unfold sC
  rw [bs_app, bs_app]; simp
theorem stm_full (m x : List Nat) (k : Nat) (hk : k = m.length % 64) (h : k + x.length = 64) : setAll (stm m) (8 + k) (bs x) = sC (sWords m) (sRest m ++ x) m.length := by
  subst hk
  have hs := split_rest m
  rw [show 64 - m.length % 64 = x.length by omega] at hs
  rw [hs, setAll_mid _ _ _ _ _ (by rw [List.length_append, us_len, sWords_len, bs_len, sRest_len]) (by rw [bs_len, bs_len, List.length_replicate])]
  unfold sC
  rw [bs_app]; simp
theorem sC_setLen (ws blk : List Nat) (n N : Nat) (hw : ws.length = 8) (hb : blk.length = 64) : (sC ws blk n).set 72 (.int .u64 (N : Int)) = sC ws blk N := by
  unfold sC
  rw [List.set_append_right _ _ (by rw [List.length_append, us_len, bs_len]; omega)]
  rw [show 72 - (us ws ++ bs blk).length = 0 by rw [List.length_append, us_len, bs_len]; omega]; rfl
theorem sC_len_get (ws blk : List Nat) (n : Nat) (hw : ws.length = 8) (hb : blk.length = 64) : (sC ws blk n)[72]? = some (.int .u64 (n : Int)) := by
  unfold sC
  rw [List.getElem?_append_right (by rw [List.length_append, us_len, bs_len]; omega)]
  rw [show 72 - (us ws ++ bs blk).length = 0 by rw [List.length_append, us_len, bs_len]; omega]; rfl
end Go.Proofs.YtjbleefpafnhhaaDoor

namespace Go.Proofs.YtjbleefpafnhhaaDoor
open Go.RowKit
def szOf (v : Value) : Nat := match v with | .string s => s.size | _ => 0
theorem szOf_str (s : ByteArray) : szOf (.string s) = s.size := rfl
theorem app_len (x y : List Nat) : (x ++ y).length = x.length + y.length := List.length_append
theorem add_mid (g o k : Nat) : (⟨g, o, none⟩ : Addr).add k = ⟨g, o + k, none⟩ := by unfold Addr.add; split <;> simp_all
theorem slice_block (W : World) (g o R : Nat) (hR : R < 64) : (Instr.sliceAt 118 (.pointer (some ⟨g, o, none⟩)) (some (.int .u64 (R : Int))) none none).run Tryd.prog W = .ok (.slice (some ⟨g, o + R, none⟩) (64 - R) (64 - R)) W := by
  have e : Tryd.prog.arrayLen 118 = 64 := by kernel_rfl
  have e2 : Tryd.prog.elem 118 = 5 := by kernel_rfl
  have hs : ∀ W, (sizeOf (Tryd.prog.elem 118)).run Tryd.prog W = .ok 1 W := fun _ => by kernel_rfl
  have h := run_sliceAt_array_l (P := Tryd.prog) W 118 ⟨g, o, none⟩ (by rw [e, e2]; exact Tryd.underlying118) .u64 (R : Int) (by omega) (by rw [e]; omega)
  rw [h, hs W]
  have hne : ¬ 64 = R := by omega
  simp [slicedAt, e, hne, add_mid]
theorem info_stm (m : List Nat) : (Tryd.prog.info? 121).map (·.size) = some (stm m).length := by rw [stm_len]; exact info_stream
theorem stm_get (m : List Nat) : (stm m)[72]? = some (.int .u64 (m.length : Int)) := sC_len_get _ _ _ (sWords_len m) (sBlock_len m)
theorem ne_empty {T : ByteArray} (h : T.size ≠ 0) : (T.toList == ([] : List UInt8)) = false := by
  rw [ByteArray.toList_eq]
  cases hl : T.data.toList with
  | nil => exact absurd (by have := congrArg List.length hl; simpa using this) h
  | cons a l => rfl
theorem AllB.app {x y : List Nat} (h : AllB x) (h' : AllB y) : AllB (x ++ y) := fun d hd => by
  rcases List.mem_append.1 hd with h1 | h1
  · exact h d h1
  · exact h' d h1
theorem AllB.take {x : List Nat} (h : AllB x) (n : Nat) : AllB (x.take n) := fun d hd => h d (List.mem_of_mem_take hd)
set_option maxHeartbeats 2000000 in
set_option maxRecDepth 100000 in
theorem add_any (m : List Nat) (hm : AllB m) (text : ByteArray) (w : World) (hk : Kc w) (hsz : m.length + text.size ≤ 1125899906842624) :
    Calls Tryd.prog 73 #[.agg (stm m).toArray, .string text] w fun e w' => e = .returned (.agg (stm (m ++ sb text)).toArray) ∧ Below w.heap.size w w' := by
  have HS := Lib.hid (stm_len m)
  have HK := Lib.hid hk
  have HM := Lib.hid hm
  clear hk hm
  go_enter Tryd.func73, Tryd.ntmps73
  have hz := zero_stream
  go_wp2_with fail
  obtain ⟨a1, a2, hbw⟩ := two_new w 121 121 (stm m).toArray zS _ _ 73 73 rfl zS_list HS.out zS_len (by decide) (by decide)
  generalize hW : (w.alloc (.cells (stm m).toArray 121)).alloc (.cells zS 121) = wc at a1 a2 hbw ⊢
  clear hW hz
  go_loopw [1] (fun t W => ∃ (T : ByteArray) (done : List Nat), t = .string T ∧ Hid (sb text = done ++ sb T) ∧ done.length + T.size ≤ text.size ∧ Arr W w.heap.size 73 121 (stm (m ++ done)) ∧ Arr W (w.heap.size + 1) 73 121 (sC (List.replicate 8 0) (List.replicate 64 0) 0) ∧ Below w.heap.size w W)
    (fun t _ => szOf t)
  case atStart => exact ⟨text, [], rfl, Lib.hid rfl, by simp, by simpa using a1, a2, hbw⟩
  case round =>
    obtain ⟨T, done, rfl, HT, hlen, c1, c2, hb⟩ := hrel
    clear a1 a2 hbw
    by_cases h0 : T.size = 0
    · have hT0 := sb_empty T h0
      have hmt : (T.toList == ([] : List UInt8)) = true := by
        have : T.toList = [] := by rw [ByteArray.toList_eq]; exact List.eq_nil_of_length_eq_zero (by simpa using h0)
        rw [this]; rfl
      have hfin : Hid (stm (m ++ done) = stm (m ++ sb text)) := by show stm _ = stm _; rw [HT.out, hT0, List.append_nil]
      rw [hfin.out] at c1
      have hR := Lib.hid c1.range
      have HI := Lib.hid (info_stm (m ++ sb text))
      have HSC : Hid (∀ v ∈ stm (m ++ sb text), v.oneCell' = true) := sC_cell _ _ _
      have HL3 := Lib.hid (stm_len (m ++ sb text))
      obtain ⟨V, hV⟩ : ∃ V, stm (m ++ sb text) = V := ⟨_, rfl⟩
      rw [hV] at hR HI HSC HL3
      have HV := Lib.hid hV
      clear hT0 c1 hfin hV
      go_wp2_with (first
        | (with_reducible refine wpList_load_mid rfl _ (.tmp 2) rfl w.heap.size 0 rfl V _ hR.out Tryd.underlying121 rfl HI.out ?_)
        | (refine wpList_store_arr rfl _ (.tmp 4) (.tmp 30) rfl (w.heap.size + 1) 0 73 121 _ V _ rfl rfl rfl c2 (by rw [HL3.out]; omega) HI.out HSC.out ?_; intro w6 f2 o6; have hbw6 := hb.trans (o6.bel.mono (by omega : w.heap.size ≤ w.heap.size + 1)); rw [setAll_e3 _ HL3.out] at f2))
      exact bodyPost_ret (hresults_one rfl _ _ (w.heap.size + 1) V _ rfl f2.range Tryd.underlying121 rfl HI.out) rfl ⟨by rw [HV.out], hbw6⟩
    · have hmt := ne_empty h0
      have hML : (m ++ done).length ≤ 1125899906842624 := by rw [List.length_append]; omega
      have hMT : (m ++ done).length + T.size ≤ 1125899906842624 := by rw [List.length_append]; omega
      have HMB : Hid (AllB (m ++ done)) := by
        have h1 : AllB (sb text) := sb_lt text
        have h2 := HT.out
        exact AllB.app HM.out (fun d hd => h1 d (by rw [h2]; exact List.mem_append_left _ hd))
      have hcl := c1.cell (stm_get (m ++ done))
      have hfl := c1.free 72
      obtain ⟨R, hRd⟩ : ∃ R, (m ++ done).length % 64 = R := ⟨_, rfl⟩
      have hR64 : R < 64 := by omega
      have hmod : ((m ++ done).length : Int) % 64 = (R : Int) := by omega
      obtain ⟨n, hn⟩ : ∃ n, Nat.min T.size (64 - R) = n := ⟨_, rfl⟩
      have hnT : n ≤ T.size := by rw [← hn]; exact Nat.min_le_left _ _
      have hnR : n ≤ 64 - R := by rw [← hn]; exact Nat.min_le_right _ _
      have hn1 : 1 ≤ n := by rw [← hn]; show 1 ≤ min T.size (64 - R); omega
      have hxl : ((sb T).take n).length = n := by rw [List.length_take, sb_len]; omega
      have hR64' : ¬ 64 = R := by omega
      have HT2 : Hid (sb text = (done ++ (sb T).take n) ++ sb (T.extract n T.size)) := by
        show sb text = _
        rw [sb_extract, List.append_assoc, List.take_append_drop]; exact HT.out
      have hTs : (T.extract n T.size).size = T.size - n := by rw [← sb_len, sb_extract, List.length_drop, sb_len]
      have hxB : AllB ((sb T).take n) := AllB.take (sb_lt T) n
      have happ : m ++ (done ++ (sb T).take n) = (m ++ done) ++ (sb T).take n := by rw [List.append_assoc]
      have HAPP := Lib.hid happ
      have HXL := Lib.hid hxl
      have HXB := Lib.hid hxB
      have HTS := Lib.hid hTs
      have HRD := Lib.hid hRd
      have HN := Lib.hid hn
      have HML : Hid ((m ++ done).length + n = ((m ++ done) ++ (sb T).take n).length) := by
        show (m ++ done).length + n = ((m ++ done) ++ (sb T).take n).length
        have h := app_len (m ++ done) ((sb T).take n)
        rw [h, HXL.out]
      clear happ hxl hxB hTs hRd hn
      obtain ⟨x, hx⟩ : ∃ x, (sb T).take n = x := ⟨_, rfl⟩
      rw [hx] at HT2 HAPP HXL HXB HML
      have HXD := Lib.hid hx
      clear hx
      generalize hM : m ++ done = M at *
      generalize hLg : M.length = L at *
      have HLG := Lib.hid hLg
      clear hM hLg HT HM HS
      have hsum : IntKind.u64.wrap ((L : Int) + (n : Int)) = (L : Int) + (n : Int) := by simp [IntKind.wrap_u64]; omega
      by_cases hfull : n = 64 - R
      · have hz0 : ((((L : Int) + (n : Int)) % 64) == 0) = true := by simp; omega
        have d0 := stm_full M x R (by rw [HLG.out, HRD.out]) (by rw [HXL.out]; omega)
        obtain ⟨e1, e2⟩ := sAdd_full M x (by rw [HLG.out, HRD.out, HXL.out]; omega)
        have hbl : (sRest M ++ x).length = 64 := by rw [List.length_append, sRest_len, HLG.out, HRD.out, HXL.out]; omega
        have hba : AllB (sRest M ++ x) := AllB.app (sRest_all HMB.out) HXB.out
        have hfin : sC (comp (sWords M) (sRest M ++ x)) (List.replicate 64 0) (L + n) = stm (M ++ x) := by
          unfold stm; rw [e1, e2, HML.out]
        have HF : Hid (∀ W, Kc W → Calls Tryd.prog 86 #[.agg (sC (sWords M) (sRest M ++ x) (L + n)).toArray] W fun e w' => e = .returned (.agg (stm (M ++ x)).toArray) ∧ Below W.heap.size W w') := fun W hW => by
          rw [← hfin]; exact flush_any _ _ _ (sWords_len M) (sWords_all M) hbl hba W hW
        rw [HLG.out] at d0
        have D0 := Lib.hid d0
        have D1 : Hid ((sC (sWords M) (sRest M ++ x) L).set 72 (.int .u64 ((L : Int) + (n : Int))) = sC (sWords M) (sRest M ++ x) (L + n)) := by
          have h := sC_setLen (sWords M) (sRest M ++ x) L (L + n) (sWords_len M) hbl
          rw [Int.natCast_add] at h
          exact h
        have D2 := Lib.hid (sC_len_get (sWords M) (sRest M ++ x) L (sWords_len M) hbl)
        have HI1 : Hid ((Tryd.prog.info? 121).map (·.size) = some (sC (sWords M) (sRest M ++ x) (L + n)).length) := by
          show (Tryd.prog.info? 121).map (·.size) = some (sC (sWords M) (sRest M ++ x) (L + n)).length
          rw [sC_len _ _ _ (sWords_len M) hbl]; exact info_stream
        have HI2 := Lib.hid (info_stm (M ++ x))
        have HL2 := Lib.hid (stm_len (M ++ x))
        have HSC2 : Hid (∀ v ∈ stm (M ++ x), v.oneCell' = true) := sC_cell _ _ _
        clear d0 e1 e2 hbl hba hfin
        obtain ⟨V, hV⟩ : ∃ V, stm (M ++ x) = V := ⟨_, rfl⟩
        obtain ⟨Y, hY⟩ : ∃ Y, sC (sWords M) (sRest M ++ x) (L + n) = Y := ⟨_, rfl⟩
        obtain ⟨X, hX⟩ : ∃ X, sC (sWords M) (sRest M ++ x) L = X := ⟨_, rfl⟩
        obtain ⟨U, hU⟩ : ∃ U, stm M = U := ⟨_, rfl⟩
        rw [hV] at HF HI2 HL2 HSC2
        rw [hY] at HF D1 HI1
        rw [hX] at D0 D1 D2
        rw [hU] at D0 c1
        have HV := Lib.hid hV
        have HYL : Hid (73 = Y.length) := by show 73 = Y.length; rw [← hY, sC_len _ _ _ (sWords_len M) (by rw [List.length_append, sRest_len, HLG.out, HRD.out, HXL.out]; omega)]
        clear hV hY hX hU
        have hsl := slice_block wr w.heap.size 8 R hR64
        have HFU := Lib.hid hfull
        clear hfull
        go_wp2_with (first
          | (refine wpList_copyS rfl (.tmp 12) (.tmp 13) _ _ rfl 5 Tryd.underlying69 info_u8s w.heap.size (8 + R) (64 - R) (64 - R) n 73 121 _ T rfl rfl HN.out c1 (by omega) ?_; intro w3 d1 o3; rw [HXD.out, D0.out] at d1; have hc72 := d1.cell D2.out; have hf72 := d1.free 72; have d4 := d1.set_ 72 (.int .u64 ((L : Int) + (n : Int))); rw [D1.out] at d4; have hR4 := Lib.hid d4.range; have hb4 : Below w.heap.size w (w3.setCell ⟨w.heap.size, 72, none⟩ (.int .u64 ((L : Int) + (n : Int)))) := (hb.trans o3.bel).setCell (Nat.le_refl _) _; have c4 := (c2.only o3 (by omega)).other (j := 72) (b := w.heap.size) (by omega) (.int .u64 ((L : Int) + (n : Int))); have hk4 := HK.out.later hb4; clear d1 o3 c1 c2 hb)
          | (with_reducible refine wpList_load_mid rfl _ (.tmp 2) rfl w.heap.size 0 rfl Y _ hR4.out Tryd.underlying121 rfl HI1.out ?_)
          | (go_at_call 86; refine (HF.out _ hk4).mono ?_; rintro e w5 ⟨rfl, hb5⟩; have d5 := d4.later hb5; have c5 := c4.later hb5; have hbw5 := later hb4 hb5; clear d4 c4 hb4 hb5 hR4)
          | (refine wpList_store_arr rfl _ (.tmp 2) (.tmp 29) rfl w.heap.size 0 73 121 _ V _ rfl rfl rfl d5 (by rw [HL2.out]; omega) HI2.out HSC2.out ?_; intro w6 f6 o6; have c6 := c5.only o6 (by omega); have hbw6 := hbw5.trans o6.bel; clear d5 c5 hbw5 o6))
        go_frame
        go_roundw
        case rel =>
          refine ⟨_, done ++ x, rfl, HT2, by have := HTS.out; have := HXL.out; rw [List.length_append]; omega, ?_, c6, hbw6⟩
          rw [HAPP.out, HV.out]
          rw [setAll_all _ _ (by have := f6.1; have h2 := HL2.out; rw [h2]; exact HYL.out)] at f6
          exact f6
        case measure =>
          have := HTS.out
          rw [szOf_str, szOf_str]
          omega
      · have hnT2 : n + R < 64 := by have := HN.out; have h3 : min T.size (64 - R) = n := this; omega
        have hz0 : ((((L : Int) + (n : Int)) % 64) == 0) = false := by
          have h1 : ((L : Int) + (n : Int)) % 64 = (R : Int) + (n : Int) := by omega
          rw [h1]; simp; omega
        have d0 := stm_part M x R (by rw [HLG.out, HRD.out]) (by rw [HXL.out]; omega)
        have HST : Hid (sC (sWords (M ++ x)) (sBlock (M ++ x)) (L + n) = stm (M ++ x)) := by
          show sC (sWords (M ++ x)) (sBlock (M ++ x)) (L + n) = stm (M ++ x)
          unfold stm; rw [HML.out]
        rw [HLG.out] at d0
        have D0 := Lib.hid d0
        have D1 : Hid ((sC (sWords (M ++ x)) (sBlock (M ++ x)) L).set 72 (.int .u64 ((L : Int) + (n : Int))) = sC (sWords (M ++ x)) (sBlock (M ++ x)) (L + n)) := by
          have h := sC_setLen (sWords (M ++ x)) (sBlock (M ++ x)) L (L + n) (sWords_len _) (sBlock_len _)
          rw [Int.natCast_add] at h
          exact h
        have D2 := Lib.hid (sC_len_get (sWords (M ++ x)) (sBlock (M ++ x)) L (sWords_len _) (sBlock_len _))
        clear d0
        obtain ⟨Y, hY⟩ : ∃ Y, sC (sWords (M ++ x)) (sBlock (M ++ x)) (L + n) = Y := ⟨_, rfl⟩
        obtain ⟨X, hX⟩ : ∃ X, sC (sWords (M ++ x)) (sBlock (M ++ x)) L = X := ⟨_, rfl⟩
        obtain ⟨U, hU⟩ : ∃ U, stm M = U := ⟨_, rfl⟩
        rw [hY] at D1 HST
        rw [hX] at D0 D1 D2
        rw [hU] at D0 c1
        clear hY hX hU hfull
        have hsl := slice_block wr w.heap.size 8 R hR64
        go_wp2_with (refine wpList_copyS rfl (.tmp 12) (.tmp 13) _ _ rfl 5 Tryd.underlying69 info_u8s w.heap.size (8 + R) (64 - R) (64 - R) n 73 121 _ T rfl rfl HN.out c1 (by omega) ?_; intro w3 d1 o3; rw [HXD.out, D0.out] at d1; have hc72 := d1.cell D2.out; have hf72 := d1.free 72; have d4 := d1.set_ 72 (.int .u64 ((L : Int) + (n : Int))); rw [D1.out] at d4; have hb4 : Below w.heap.size w (w3.setCell ⟨w.heap.size, 72, none⟩ (.int .u64 ((L : Int) + (n : Int)))) := (hb.trans o3.bel).setCell (Nat.le_refl _) _; have c4 := (c2.only o3 (by omega)).other (j := 72) (b := w.heap.size) (by omega) (.int .u64 ((L : Int) + (n : Int))); clear d1 o3 c1 c2 hb)
        go_roundw
        case rel =>
          refine ⟨_, done ++ x, rfl, HT2, by have := HTS.out; have := HXL.out; rw [List.length_append]; omega, ?_, c4, hb4⟩
          rw [HAPP.out, ← HST.out]
          exact d4
        case measure =>
          have := HTS.out
          rw [szOf_str, szOf_str]
          omega
end Go.Proofs.YtjbleefpafnhhaaDoor

namespace Go.Proofs.YtjbleefpafnhhaaDoor
def bw (p : List Nat) (k n : Nat) : List Nat := p ++ (List.replicate (8 - k) 0 ++ (be64 n).drop (8 - k))
theorem be64_len (n : Nat) : (be64 n).length = 8 := by simp [be64]
theorem be64_all (n : Nat) : AllB (be64 n) := by
  intro x hx
  obtain ⟨i, _, rfl⟩ := List.mem_map.1 hx
  exact Nat.mod_lt _ (by decide)
theorem be64_get (n k : Nat) (hk : k < 8) : (be64 n)[7 - k]? = some (n / 2 ^ (8 * k) % 256) := by
  have h1 : 56 - 8 * (7 - k) = 8 * k := by omega
  have h2 : 7 - k < 8 := by omega
  simp [be64, h2, h1]
theorem bw_zero (p : List Nat) (n : Nat) : bw p 0 n = p ++ List.replicate 8 0 := by
  unfold bw
  rw [List.drop_of_length_le (by rw [be64_len]; omega), List.append_nil]
theorem bw_all (p : List Nat) (n : Nat) : bw p 8 n = p ++ be64 n := by unfold bw; simp
theorem bw_len (p : List Nat) (k n : Nat) (hp : p.length = 56) (hk : k ≤ 8) : (bw p k n).length = 64 := by
  unfold bw; rw [List.length_append, List.length_append, List.length_replicate, List.length_drop, be64_len]; omega
theorem bw_set (p : List Nat) (k n : Nat) (hp : p.length = 56) (hk : k < 8) : (bw p k n).set (63 - k) (n / 2 ^ (8 * k) % 256) = bw p (k + 1) n := by
  have hr : List.replicate (8 - k) 0 = List.replicate (7 - k) 0 ++ [0] := by
    rw [show 8 - k = (7 - k) + 1 by omega, List.replicate_succ']
  have hd : (be64 n).drop (8 - (k + 1)) = (n / 2 ^ (8 * k) % 256) :: (be64 n).drop (8 - k) := by
    have hg := be64_get n k hk
    have hlt : 7 - k < (be64 n).length := by rw [be64_len]; omega
    rw [List.getElem?_eq_getElem hlt] at hg
    rw [show 8 - (k + 1) = 7 - k by omega, List.drop_eq_getElem_cons hlt, Option.some.inj hg]
    congr 2; omega
  unfold bw
  rw [List.set_append_right _ _ (by omega), hp, hr, List.append_assoc, List.set_append_right _ _ (by rw [List.length_replicate]; omega), List.length_replicate]
  rw [show 63 - k - 56 - (7 - k) = 0 by omega]
  rw [hd, show 8 - (k + 1) = 7 - k by omega]
  rfl
theorem outB_get (s : List Nat) (k : Nat) (hk : k < 32) : (outB s)[k]? = some (s.getD (k / 4) 0 / 2 ^ (24 - k % 4 * 8) % 256) := by simp [outB, hk]
theorem bw_block (p : List Nat) (n : Nat) (hp : AllB p) : AllB (p ++ be64 n) := fun d hd => by
  rcases List.mem_append.1 hd with h1 | h1
  · exact hp d h1
  · exact be64_all n d h1
theorem mark_one (m : List Nat) (h : m.length % 64 < 56) : sRest m ++ 128 :: List.replicate (63 - m.length % 64) 0 = (sRest m ++ 128 :: List.replicate (55 - m.length % 64) 0) ++ List.replicate 8 0 := by
  rw [show 63 - m.length % 64 = (55 - m.length % 64) + 8 by omega, ← List.replicate_append_replicate]; simp
theorem mark_len (m : List Nat) : (sRest m ++ 128 :: List.replicate (63 - m.length % 64) 0).length = 64 := by
  rw [List.length_append, sRest_len, List.length_cons, List.length_replicate]; omega
theorem mark_all {m : List Nat} (h : AllB m) (k : Nat) : AllB (sRest m ++ 128 :: List.replicate k 0) := fun d hd => by
  rcases List.mem_append.1 hd with h1 | h1
  · exact sRest_all h d h1
  · rcases List.mem_cons.1 h1 with rfl | h2
    · decide
    · rw [(List.mem_replicate.1 h2).2]; decide
end Go.Proofs.YtjbleefpafnhhaaDoor

