import Derived.Test.YtbfoajfpnfkfnaaDoorS16
import Derived.Deep.QuietTactic
import Derived.BigQuiet
set_option linter.unusedVariables false
set_option linter.unusedSimpArgs false
namespace Go.Proofs.YtbfoajfpnfkfnaaDoor
open Go.RowKit

theorem pow_8 (i : Nat) : 2 ^ (8 * i) = 256 ^ i := by rw [Nat.pow_mul]
theorem digs_ge (m : Nat) (h : 0 < (digs m).length) : 256 ^ ((digs m).length - 1) ≤ m := by
  rcases Nat.lt_or_ge m (256 ^ ((digs m).length - 1)) with h1 | h1
  · have := digs_len_le _ m h1; omega
  · exact h1
theorem lead_ne (m : Nat) : ¬ (0 < (digs m).length ∧ m / 2 ^ (8 * ((digs m).length - 1)) = 0) := by
  rintro ⟨h1, h2⟩
  have h3 := digs_ge m h1
  rw [pow_8] at h2
  have h4 : 0 < 256 ^ ((digs m).length - 1) := Nat.pow_pos (by omega)
  have := Nat.div_pos h3 h4
  omega
theorem dec_enc_pos (n : Nat) (hn : n ≤ 9223372036854775807) (t : List Nat) : dec (enc (n : Int) ++ t) = ((n : Int), (enc (n : Int)).length, 0) := by
  have h8 := digs_len8 hn
  rw [enc_pos, List.cons_append]
  have hk : kOf (128 + (digs n).length) = (digs n).length := by unfold kOf; rw [if_neg (by omega)]; omega
  rw [dec_end hk (by omega) (by simp) (show decide (128 + (digs n).length < 128) = false by simp)]
  have ht : (digs n ++ t).take (digs n).length = digs n := by simp
  rw [ht]
  show decEnd false _ (val (digs n)) = _
  rw [val_digs]
  unfold decEnd
  rw [if_neg (by rintro (h | h); omega; exact lead_ne n h)]
  simp; omega
theorem dec_enc_neg (n : Nat) (hn : n ≤ 9223372036854775807) (t : List Nat) : dec (enc (-1 - (n : Int)) ++ t) = (-1 - (n : Int), (enc (-1 - (n : Int))).length, 0) := by
  have h8 := digs_len8 hn
  rw [enc_neg, List.cons_append]
  have hk : kOf (127 - (digs n).length) = (digs n).length := by unfold kOf; rw [if_pos (by omega)]; omega
  rw [dec_end hk (by omega) (by simp) (show decide (127 - (digs n).length < 128) = true by simp; omega)]
  have ht : ((digs n).map (255 - ·) ++ t).take (digs n).length = inv true (digs n) := by simp [inv]
  rw [ht, inv_inv true (digs n) (digs_lt n), val_digs]
  unfold decEnd
  rw [if_neg (by rintro (h | h); omega; exact lead_ne n h)]
  simp; omega
theorem dec_enc (n : Int) (h1 : -9223372036854775808 ≤ n) (h2 : n ≤ 9223372036854775807) (t : List Nat) : dec (enc n ++ t) = (n, (enc n).length, 0) := by
  by_cases h : 0 ≤ n
  · obtain ⟨m, rfl⟩ := Int.eq_ofNat_of_zero_le h
    exact dec_enc_pos m (by omega) t
  · obtain ⟨m, hm⟩ := Int.eq_ofNat_of_zero_le (show 0 ≤ -1 - n by omega)
    have : n = -1 - (m : Int) := by omega
    subst this
    exact dec_enc_neg m (by omega) t

theorem wp_neqArr {P : Program} {o : Oper} {a : Act} {w : World} {K : Act → World → Prop} {Q : Exit → Act → World → Prop} {b : Bool} (ty : TypeId) (x y : Operand) (u : TypeId) (ho : o.op = .binOp .neq ty x y u)
    (X Y : Array Value) (hx : a.eval x = .agg X) (hy : a.eval y = .agg Y) (heg : P.eqGuardType P.depth ty = false) (hrun : (binOp .neq ty (.agg X) (.agg Y)).run P w = .ok (.bool b) w)
    (h : K (a.put o.dst (.bool b)) w) : Oper.wp P o a w K Q := by
  unfold Oper.wp execOp
  simp only [ho, hx, hy, Sem.run_bind, run_eqGuard_agg _ _ _ _ _ _ _ heg, hrun, Result.andThen_ok, Sem.run_pure]
  exact h
theorem eqg_dig3 : Tryd.prog.eqGuardType Tryd.prog.depth 44 = false := by kernel_rfl
theorem run_eqDig3 (w : World) (d d' : List Nat) (h : d.length = 16) (h' : d'.length = 16) : (Op.equalIn 10000 44 (.agg (bs d).toArray) (.agg (bs d').toArray)).run Tryd.prog w = .ok (decide (d = d')) w := by
  have e : ∀ l : List Nat, bs l = (l.map Int.ofNat).map (Value.int .u8) := fun l => by simp [bs, U8, List.map_map, Function.comp_def]
  have h2 := run_eqArr (P := Tryd.prog) w 9998 16 44 5 .u8 Tryd.underlying44 Tryd.underlying5 (by have := info_u8; simp only [Option.map_eq_some_iff] at this ⊢; obtain ⟨i, hi, hx⟩ := this; exact ⟨i, hi, by simp at hx; exact hx.2.1⟩) (d.map Int.ofNat) (d'.map Int.ofNat) (by simpa using h) (by simpa using h')
  have hd : decide (d.map Int.ofNat = d'.map Int.ofNat) = decide (d = d') := decide_eq_decide.2 (List.map_inj_right (fun a b hab => Int.ofNat.inj hab))
  rw [e, e, h2, hd]
theorem run_neqDig (w : World) (d d' : List Nat) (b : Bool) (h : d.length = 16) (h' : d'.length = 16) (hb : decide (d = d') = b) : (binOp .neq 44 (.agg (bs d).toArray) (.agg (bs d').toArray)).run Tryd.prog w = .ok (.bool (!b)) w := by
  show ((Op.equalIn 10000 44 (.agg (bs d).toArray) (.agg (bs d').toArray)) >>= fun r => pure (Value.bool (!r))).run Tryd.prog w = _
  rw [Sem.run_bind, run_eqDig3 w d d' h h', hb]; rfl
theorem run_eqDigB (w : World) (d d' : List Nat) (b : Bool) (h : d.length = 16) (h' : d'.length = 16) (hb : decide (d = d') = b) : (binOp .eql 44 (.agg (bs d).toArray) (.agg (bs d').toArray)).run Tryd.prog w = .ok (.bool b) w := by
  show ((Op.equalIn 10000 44 (.agg (bs d).toArray) (.agg (bs d').toArray)) >>= fun r => pure (Value.bool r)).run Tryd.prog w = _
  rw [Sem.run_bind, run_eqDig3 w d d' h h', hb]; rfl

set_option maxHeartbeats 4000000 in
set_option maxRecDepth 100000 in
theorem Verify_form (P M X : List Nat) (h i n u : Nat) (w : World) (hP : P.length = 16) (hh : h ≤ 6) (hi : i < 2 ^ h) (hMl : M.length ≤ 1000) (hX : AllB X) (hn : X.length = n) (hXl : n ≤ 100000) (hd : dec X = ((i : Int), u, 0)) (hu : u ≤ n) (hbad : n - u ≠ (68 + h) * 16) :
    Calls Tryd.prog 34 #[.agg (bs P).toArray, .int .i64 (h : Int), .string (mkS M), .string (mkS X)] w fun e w' => e = .returned (.tuple #[.int .i64 0, .int .i64 2]) ∧ Below w.heap.size w w' := by
  have hH : Hid (∀ W, Calls Tryd.prog 49 #[.int .i64 (h : Int)] W fun e w' => e = .returned (.bool true) ∧ W = w') := Lib.hid fun W => (isHeight_yes h W hh).mono fun _ _ ⟨a, b⟩ => ⟨a, b.symm⟩
  have hI : Hid (∀ W, Calls Tryd.prog 51 #[.int .i64 (i : Int), .int .i64 (h : Int)] W fun e w' => e = .returned (.bool true) ∧ W = w') := Lib.hid fun W => (isIndex_yes i h W hh hi).mono fun _ _ ⟨a, b⟩ => ⟨a, b.symm⟩
  have hm1 : ¬ (1048576 : Int) < ((mkS M).size : Int) := by rw [mkS_size]; omega
  have V0 := new_later w (.cells (bs P).toArray 44)
  have hus : (u : Int) ≤ ((mkS X).size : Int) := by rw [mkS_size]; omega
  have hXs : (mkS X).size = n := by rw [mkS_size, hn]
  have hbadI : (((n - u : Nat) : Int) != (68 + (h : Int)) * 16) = true := by rw [bne_iff_ne]; omega
  have HCV : Hid (∀ W, ∃ W' C, (convert 9 22 (.string (mkS X))).run Tryd.prog W = .ok (.slice (some ⟨W.heap.size, 0, none⟩) n C) W' ∧ n ≤ C ∧ C ≤ maxLen ∧ Below W.heap.size W W' ∧ W.heap.size < W'.heap.size ∧ W'.rangeAt W.heap.size 0 (bs X) ∧ Rd W' W'.heap.size (some ⟨W.heap.size, 0, none⟩) (bs X)) := Lib.hid fun W => conv_new W X hX n hn (by omega)
  have HGI : Hid (∀ A C W, Rd W W.heap.size A (bs X) → n ≤ C → C ≤ maxLen → Calls Tryd.prog 56 #[.slice A n C] W fun e w' => e = .returned (.tuple #[.int .i64 (i : Int), .int .i64 (u : Int), .int .i64 0]) ∧ Below W.heap.size W w') := Lib.hid fun A C W hr h1 h2 => (getInt_any n W.heap.size C A X W hn.symm hr hX h1 h2).mono fun e w' ⟨he, k, hw⟩ => ⟨by rw [he, hd]; rfl, by rw [hw]; exact below_drewN (Below.refl _ _) k⟩
  go_enter Tryd.func34, Tryd.ntmps34
  go_upto_region 5 with (go_at_call 49; with_reducible refine (hH.out _).mono ?_; rintro e w1 ⟨rfl, rfl⟩)
  generalize hW : w.alloc (.cells (bs P).toArray 44) = wa at V0 ⊢
  clear hW
  obtain ⟨w1, C, hcv, hC1, hC2, hb1, hlt1, _, hr1⟩ := HCV.out wa
  have V1 := later V0 hb1
  have hl0 : (0 : Int) ≤ (u : Int) := by omega
  clear hX hn hd hbad hP
  go_wp2_with (first
    | (go_at_call 56; (with_reducible refine (HGI.out _ C w1 hr1 hC1 hC2).mono ?_); rintro e w2 ⟨rfl, hb2⟩; have V2 := later V1 hb2)
    | (go_at_call 51; with_reducible refine (hI.out _).mono ?_; rintro e w3 ⟨rfl, rfl⟩))
  go_ret2
  exact ⟨rfl, V2⟩

set_option maxHeartbeats 4000000 in
set_option maxRecDepth 100000 in
theorem Verify_any (P M V : List Nat) (O : List (List Nat)) (h i : Nat) (b : Bool) (w : World) (hP : P.length = 16) (hPB : AllB P) (hh : h ≤ 6) (hi : i < 2 ^ h) (hM : AllB M) (hMl : M.length ≤ 1000) (hV : V.length = 1088) (hVB : AllB V) (hO : O.length = h) (hO16 : ∀ x ∈ O, x.length = 16) (hOB : ∀ x ∈ O, AllB x) (hK : Kc w)
    (hb : decide (overL (leafL (climbL i V (digL (msgL P i M)) top68)) i O = P) = b) :
    Calls Tryd.prog 34 #[.agg (bs P).toArray, .int .i64 (h : Int), .string (mkS M), .string (mkS (enc (i : Int) ++ V ++ O.flatten))] w fun e w' => e = .returned (.tuple #[.int .i64 (if b then (i : Int) else 0), .int .i64 (if b then 0 else 10)]) ∧ Below w.heap.size w w' := by
  have hi64 : i < 64 := Nat.lt_of_lt_of_le hi (Nat.le_trans (Nat.pow_le_pow_right (by decide) hh) (by decide))
  have hH : Hid (∀ W, Calls Tryd.prog 49 #[.int .i64 (h : Int)] W fun e w' => e = .returned (.bool true) ∧ W = w') := Lib.hid fun W => (isHeight_yes h W hh).mono fun _ _ ⟨a, b⟩ => ⟨a, b.symm⟩
  have hI : Hid (∀ W, Calls Tryd.prog 51 #[.int .i64 (i : Int), .int .i64 (h : Int)] W fun e w' => e = .returned (.bool true) ∧ W = w') := Lib.hid fun W => (isIndex_yes i h W hh hi).mono fun _ _ ⟨a, b⟩ => ⟨a, b.symm⟩
  have hm1 : ¬ (1048576 : Int) < ((mkS M).size : Int) := by rw [mkS_size]; omega
  have V0 := new_later w (.cells (bs P).toArray 44)
  have P0 := Arr.new' w 44 (bs P).toArray 16 (bs P) rfl (by rw [bs_len, hP]) (by decide)
  have hFl : O.flatten.length = 16 * h := by rw [flatten_len O hO16, hO]
  have hFB : AllB O.flatten := fun d hd => by obtain ⟨x, hx, hd⟩ := List.mem_flatten.1 hd; exact hOB x hx d hd
  have hIl := enc_len (i : Int) (by omega)
  have hX : AllB (enc (i : Int) ++ V ++ O.flatten) := AllB.app (AllB.app (enc_lt _ (by omega)) hVB) hFB
  have hd : dec (enc (i : Int) ++ V ++ O.flatten) = ((i : Int), (enc (i : Int)).length, 0) := by rw [List.append_assoc]; exact dec_enc (i : Int) (by omega) (by omega) _
  obtain ⟨u, hu⟩ : ∃ u, (enc (i : Int)).length = u := ⟨_, rfl⟩
  obtain ⟨n, hn⟩ : ∃ n, (enc (i : Int) ++ V ++ O.flatten).length = n := ⟨_, rfl⟩
  have hnn : n = u + 1088 + 16 * h := by rw [← hn, List.length_append, List.length_append, hu, hV, hFl]
  have HR : Hid ((mkS (enc (i : Int) ++ V ++ O.flatten)).extract u n = mkS (V ++ O.flatten)) := Lib.hid (by rw [ext_mkS, List.take_of_length_le (by omega), List.append_assoc, List.drop_append_of_le_length (by omega), List.drop_of_length_le (by omega), List.nil_append])
  have HR1 : Hid ((mkS (V ++ O.flatten)).extract 0 1088 = mkS V) := Lib.hid (by rw [ext_mkS, List.take_append_of_le_length (by omega), List.take_of_length_le (by omega)]; rfl)
  have HR2 : Hid ((mkS (V ++ O.flatten)).extract 1088 (mkS (V ++ O.flatten)).size = mkS O.flatten) := Lib.hid (by rw [ext_mkS, mkS_size, List.take_of_length_le (Nat.le_refl _), List.drop_append_of_le_length (by omega), List.drop_of_length_le (by omega), List.nil_append])
  rw [hu] at hd
  have hus : (u : Int) ≤ ((mkS (enc (i : Int) ++ V ++ O.flatten)).size : Int) := by rw [mkS_size]; omega
  have hXs : (mkS (enc (i : Int) ++ V ++ O.flatten)).size = n := by rw [mkS_size, hn]
  have hokI : (((n - u : Nat) : Int) != (68 + (h : Int)) * 16) = false := by rw [bne_eq_false_iff_eq]; omega
  have HRS : Hid ((mkS (V ++ O.flatten)).size = 1088 + 16 * h) := Lib.hid (by rw [mkS_size, List.length_append, hV, hFl])
  have HCV : Hid (∀ W, ∃ W' C, (convert 9 22 (.string (mkS (enc (i : Int) ++ V ++ O.flatten)))).run Tryd.prog W = .ok (.slice (some ⟨W.heap.size, 0, none⟩) n C) W' ∧ n ≤ C ∧ C ≤ maxLen ∧ Below W.heap.size W W' ∧ W.heap.size < W'.heap.size ∧ W'.rangeAt W.heap.size 0 (bs (enc (i : Int) ++ V ++ O.flatten)) ∧ Rd W' W'.heap.size (some ⟨W.heap.size, 0, none⟩) (bs (enc (i : Int) ++ V ++ O.flatten))) := Lib.hid fun W => conv_new W _ hX n hn (by omega)
  have HGI : Hid (∀ A C W, Rd W W.heap.size A (bs (enc (i : Int) ++ V ++ O.flatten)) → n ≤ C → C ≤ maxLen → Calls Tryd.prog 56 #[.slice A n C] W fun e w' => e = .returned (.tuple #[.int .i64 (i : Int), .int .i64 (u : Int), .int .i64 0]) ∧ Below W.heap.size W w') := Lib.hid fun A C W hr h1 h2 => (getInt_any n W.heap.size C A _ W hn.symm hr hX h1 h2).mono fun e w' ⟨he, k, hw⟩ => ⟨by rw [he, hd]; rfl, by rw [hw]; exact below_drewN (Below.refl _ _) k⟩
  have HG : Hid (∀ W, Below w.heap.size w W → Calls Tryd.prog 47 #[.agg (bs P).toArray, .int .i64 (i : Int), .string (mkS M)] W fun e w' => e = .returned (.agg (bs (msgL P i M)).toArray) ∧ Below W.heap.size W w') := Lib.hid fun W hW => digest_any P M i (by omega) hP hPB hM (by omega) W (hK.later hW)
  have HDO : Hid (∀ W, Calls Tryd.prog 48 #[.agg (bs (msgL P i M)).toArray] W fun e w' => e = .returned (.agg (isv (digL (msgL P i M))).toArray) ∧ Below W.heap.size W w') := Lib.hid fun W => digitsOf_any _ (msgL_len _ _ _) (msgL_all _ _ _) W
  have HTP : Hid (∀ X, Calls Tryd.prog 57 #[] X fun e w' => e = .returned (.agg (isv top68).toArray) ∧ Below X.heap.size X w') := Lib.hid fun X => tops_any X
  have HC : Hid (∀ W, Below w.heap.size w W → Calls Tryd.prog 52 #[.int .i64 (i : Int), .string (mkS V), .agg (isv (digL (msgL P i M))).toArray, .agg (isv top68).toArray] W fun e w' => e = .returned (.string (mkS (climbL i V (digL (msgL P i M)) top68))) ∧ Below W.heap.size W w') :=
    Lib.hid fun W hW => climb_any i V _ _ (by omega) hV hVB (digL_len _ (msgL_len _ _ _)) top68_len (fun c => digL_le _ c) (fun c => by unfold top68; rw [List.getD_eq_getElem?_getD, List.getElem?_replicate]; split <;> simp) W (hK.later hW)
  have HLF : Hid (∀ W, Below w.heap.size w W → Calls Tryd.prog 59 #[.string (mkS (climbL i V (digL (msgL P i M)) top68))] W fun e w' => e = .returned (.agg (bs (leafL (climbL i V (digL (msgL P i M)) top68))).toArray) ∧ Below W.heap.size W w') :=
    Lib.hid fun W hW => leaf_any _ (climbL_all _ _ _ hVB) (by rw [climbL_len _ _ _ hV]; decide) W (hK.later hW)
  generalize climbL i V (digL (msgL P i M)) top68 = CL at HC HLF hb
  have HRO : Hid (∀ W, Below w.heap.size w W → Calls Tryd.prog 58 #[.agg (bs (leafL CL)).toArray, .int .i64 (i : Int), .string (mkS O.flatten)] W fun e w' => e = .returned (.agg (bs (overL (leafL CL) i O)).toArray) ∧ Below W.heap.size W w') :=
    Lib.hid fun W hW => rootOver_any (leafL CL) i O W (ofd_len _ _) (ofd_all _ _) (by omega) hO16 hOB (by omega) (hK.later hW)
  have HQ : Hid (∀ W, (binOp .neq 44 (.agg (bs (overL (leafL CL) i O)).toArray) (.agg (bs P).toArray)).run Tryd.prog W = .ok (.bool (!b)) W) := Lib.hid fun W => run_neqDig W _ _ b (overL_len _ _ _ (ofd_len _ _)) hP hb
  generalize overL (leafL CL) i O = RR at HRO HQ
  generalize leafL CL = LF at HLF HRO
  generalize digL (msgL P i M) = DL at HDO HC
  generalize msgL P i M = MD at HG HDO
  generalize (isv top68).toArray = TV at HTP HC
  have HPL : Hid ((bs P).length = 16) := Lib.hid (by rw [bs_len, hP])
  have HIP : Hid ((Tryd.prog.info? 44).map (·.size) = some (bs P).length) := Lib.hid (by rw [HPL.out]; exact info_dig)
  have hu' := Tryd.underlying44
  clear hP hPB hM hMl hV hVB hO hO16 hOB hb hFl hFB hX hd hK hIl hu hi
  generalize enc (i : Int) ++ V ++ O.flatten = X at *
  generalize V ++ O.flatten = RV at *
  generalize O.flatten = OF at *
  have HN := Lib.hid hn
  have HNN := Lib.hid hnn
  clear hn hnn
  go_enter Tryd.func34, Tryd.ntmps34
  go_upto_region 5 with (go_at_call 49; with_reducible refine (hH.out _).mono ?_; rintro e w1 ⟨rfl, rfl⟩)
  generalize hW : w.alloc (.cells (bs P).toArray 44) = wa at V0 P0 ⊢
  clear hW
  obtain ⟨w1, C, hcv, hC1, hC2, hb1, hlt1, _, hr1⟩ := HCV.out wa
  have V1 := later V0 hb1
  have P1 := P0.later hb1
  have hl0 : (0 : Int) ≤ (u : Int) := by omega
  go_upto_region 11 with (first
    | (go_at_call 56; (with_reducible refine (HGI.out _ C w1 hr1 hC1 hC2).mono ?_); rintro e w2 ⟨rfl, hb2⟩; have V2 := later V1 hb2; have P2 := P1.later hb2)
    | (go_at_call 51; with_reducible refine (hI.out _).mono ?_; rintro e w3 ⟨rfl, rfl⟩))
  rw [HR.out]
  clear hus hXs hokI hcv hr1 HCV HGI
  have V3 : ∀ q, Below w.heap.size w (w2.drewN q) := fun q => below_drewN V2 q
  have P3 : ∀ q, Arr (w2.drewN q) w.heap.size 16 44 (bs P) := fun q => P2
  have HV3 := Lib.hid V3
  have HP3 := Lib.hid P3
  clear V3 P3
  have hrs : (1088 : Int) ≤ ((mkS RV).size : Int) := by rw [HRS.out]; omega
  go_quiet (fail)
  rw [HR1.out, HR2.out]
  go_upto_region 13 with (first
    | (with_reducible refine wpList_load_mid rfl _ (.tmp 4) rfl w.heap.size 0 rfl (bs P) _ (HP3.out _).range Tryd.underlying44 rfl HIP.out ?_)
    | (go_at_call 47; (with_reducible refine (HG.out _ (HV3.out _)).mono ?_); rintro e w9 ⟨rfl, hb9⟩; have V9 := later (HV3.out _) hb9; have T9 := (HP3.out _).later hb9)
    | (go_at_call 48; (with_reducible refine (HDO.out _).mono ?_); rintro e w10 ⟨rfl, hb10⟩; have V10 := later V9 hb10; have T10 := T9.later hb10)
    | (go_at_call 57; (with_reducible refine (HTP.out _).mono ?_); rintro e w11 ⟨rfl, hb11⟩; have V11 := later V10 hb11; have T11 := T10.later hb11)
    | (go_at_call 52; (with_reducible refine (HC.out _ V11).mono ?_); rintro e w12 ⟨rfl, hb12⟩; have V12 := later V11 hb12; have T12 := T11.later hb12))
  have T12d : Arr w12.drew w.heap.size 16 44 (bs P) := T12
  have V12d : Below w.heap.size w w12.drew := below_drew V12
  refine wp_region_held_drew (S := fun W => W.rangeAt (w.heap.size) 0 (bs P)) (by kernel_rfl) T12d.range (fun hS => ?_)
  refine wpAnyH_take (i := 5) (v := .agg (bs P).toArray) rfl (by kernel_rfl) (by kernel_rfl) (by kernel_rfl) (fun _ _ _ h => h) (yieldsIf_load_mid (by rfl) _ _ rfl (w.heap.size) 0 rfl (bs P) _ (fun _ h => h) hu' rfl HIP.out) hS ?_
  simp only [Act.put, List.setIfInBounds_toArray, List.set_cons_succ, List.set_cons_zero]
  refine wpAnyH_take (i := 0) (v := .string (mkS CL)) rfl (by kernel_rfl) (by kernel_rfl) (by kernel_rfl) (fun _ _ _ h => h) (Or.inl ⟨by rfl, fun w _ => by rfl⟩) hS ?_
  simp only [Act.put, List.setIfInBounds_toArray, List.set_cons_succ, List.set_cons_zero]
  refine wpAnyH_take (i := 2) (v := .int .i64 (i : Int)) rfl (by kernel_rfl) (by kernel_rfl) (by kernel_rfl) (fun _ _ _ h => h) (Or.inl ⟨by rfl, fun w _ => by rfl⟩) hS ?_
  simp only [Act.put, List.setIfInBounds_toArray, List.set_cons_succ, List.set_cons_zero]
  refine wpAnyH_take (i := 3) (v := .string (mkS OF)) rfl (by kernel_rfl) (by kernel_rfl) (by kernel_rfl) (fun _ _ _ h => h) (Or.inl ⟨by rfl, fun w _ => by rfl⟩) hS ?_
  simp only [Act.put, List.setIfInBounds_toArray, List.set_cons_succ, List.set_cons_zero]
  refine wpAnyH_ready (rs := [1]) (by kernel_rfl) (by simp) ?_
  refine AllReadyH.cons rfl (fun K hK => ?_) (AllReadyH.nil)
  go_simp
  go_at_call 59
  refine (HLF.out _ V12d).mono ?_
  rintro e w13 ⟨rfl, hb13⟩
  have V13 := later V12d hb13
  have T13 := T12d.later hb13
  refine hK.out _ _ T13.range (fun hS => ?_)
  clear hK
  clear K
  refine wpAnyH_ready (rs := [4]) (by kernel_rfl) (by simp) ?_
  refine AllReadyH.cons rfl (fun K hK => ?_) (AllReadyH.nil)
  go_simp
  go_at_call 58
  refine (HRO.out _ V13).mono ?_
  rintro e w14 ⟨rfl, hb14⟩
  have V14 := later V13 hb14
  have T14 := T13.later hb14
  refine hK.out _ _ T14.range (fun hS => ?_)
  clear hK
  clear K
  refine wpAnyH_ready (rs := [6]) (by kernel_rfl) (by simp) ?_
  refine AllReadyH.cons rfl (fun K hK => ?_) (AllReadyH.nil)
  rw [if_pos (by rfl)]
  refine wp_neqArr _ _ _ _ rfl (bs RR).toArray (bs P).toArray rfl rfl eqg_dig3 (HQ.out _) ?_
  refine hK.out _ _ T14.range (fun hS => ?_)
  clear hK
  clear K
  simp only [Act.put, List.setIfInBounds_toArray, List.set_cons_succ, List.set_cons_zero]
  refine wpAnyH_done (by kernel_rfl) ?_ _
  cases b
  all_goals
    go_wp2_with fail
    go_ret2
    exact ⟨rfl, V14⟩
end Go.Proofs.YtbfoajfpnfkfnaaDoor
