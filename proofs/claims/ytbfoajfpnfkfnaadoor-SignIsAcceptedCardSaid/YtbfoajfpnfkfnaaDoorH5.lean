import Derived.Test.YtbfoajfpnfkfnaaDoorH4
import Derived.Lib.LazyBuf
import Derived.Lib.IndexBytes
set_option linter.unusedVariables false
namespace Go.Proofs.YtbfoajfpnfkfnaaDoor
open Go.RowKit

theorem bs_sb_take (T : ByteArray) (n : Nat) : (T.data.toList.map fun x => Value.int .u8 (x.toNat : Int)).take n = bs ((sb T).take n) := by
  simp [bs, sb, U8, List.map_take, List.map_map, Function.comp_def]
theorem run_copy_pre {P : Program} (w : World) (dT sT ty elem : TypeId) (b o dLen dCap n : Nat) (t : ByteArray)
    (hu : P.underlying dT = some (.slice elem)) (hz : (P.info? elem).map (·.size) = some 1) (hn : Nat.min t.size dLen = n) (ht : w.there b o n) :
    (Builtin.copy_ #[dT, sT] ty #[.slice (some ⟨b, o, none⟩) dLen dCap, .string t]).run P w = .ok (goInt n) (w.setCells b o (bs ((sb t).take n))) := by
  obtain ⟨i0, hi0, _⟩ := Option.map_eq_some_iff.1 hz
  have hnt : n ≤ t.size := by rw [← hn]; exact Nat.min_le_left _ _
  have hl : (bs ((sb t).take n)).length = n := by rw [bs_len, List.length_take, sb_len]; omega
  have hst := run_storeCells_cells (P := P) b o (bs ((sb t).take n)) 0 w (by rw [hl]; intro j hj; simpa using (ht j hj).1) (by rw [hl]; intro j hj; simpa using (ht j hj).2) (bs_cell _)
  rw [← bs_sb_take] at hst
  simp [Builtin.copy_, run_underlying hu, Builtin.lenOf, Builtin.firstCells, sizeOf, typeInfo, hi0, hn]
  rw [hst, bs_sb_take]
  rfl
/-- 'copy(d, s)', s a string, d a part of a variable of the call's own. -/
theorem wpList_copyS {P : Program} {ops : Array Oper} {rest : List Oper} {o : Oper} {a : Act} {w : World} {Q : Exit → Act → World → Prop} (hgd : o.guard = none) (d s : Operand) (dT sT : TypeId)
    (ho : o.op = .call { callee := .builtin .copy, args := #[d, s], argTypes := #[dT, sT] }) (elem : TypeId) (hu : P.underlying dT = some (.slice elem)) (hz : (P.info? elem).map (·.size) = some 1)
    (g off dLen dCap n nn : Nat) (e : TypeId) (xs : List Value) (T : ByteArray) (hd : a.eval d = .slice (some ⟨g, off, none⟩) dLen dCap) (hs : a.eval s = .string T) (hn : Nat.min T.size dLen = n)
    (hA : Arr w g nn e xs) (hfit : off + n ≤ nn)
    (h : ∀ w', Arr w' g nn e (setAll xs off (bs ((sb T).take n))) → Only g w w' → wpList P ops Q rest (a.put o.dst (goInt n)) w') : wpList P ops Q (o :: rest) a w := by
  have hrun := run_copy_pre (P := P) w dT sT o.type elem g off dLen dCap n T hu hz hn (hA.thereAt hfit)
  refine wpList_plain hgd fun K hK => ?_
  unfold Oper.wp execOp
  simp only [ho, resolve, invoke, builtin, Sem.run_bind, Sem.run_pure, Result.andThen_ok, List.map_toArray, List.map_cons, List.map_nil, hd, hs, hrun]
  exact hK _ _ (h _ (hA.setCells _) (Only.setCells g off _ w))

set_option maxHeartbeats 1000000 in
set_option maxRecDepth 100000 in
theorem begin_any (w : World) :
    Calls Tryd.prog 17 #[] w fun e w' => e = .returned (.agg (sC h0 (List.replicate 64 0) 0).toArray) ∧ Below w.heap.size w w' := by
  have hz := zero_stream
  have hL : Hid ((sC h0 (List.replicate 64 0) 0).length = 73) := sC_len _ _ _ rfl (by simp)
  have hI : Hid ((Tryd.prog.info? 34).map (·.size) = some (sC h0 (List.replicate 64 0) 0).length) := by
    show (Tryd.prog.info? 34).map (·.size) = some (sC h0 (List.replicate 64 0) 0).length
    rw [hL.out]; exact info_stream
  go_enter Tryd.func17, Tryd.ntmps17
  go_upto_region 1 with fail
  have a1 := Arr.new' w 34 zS 73 _ zS_list zS_len (by decide)
  have hbw := new_later w (.cells zS 34)
  generalize hW : w.alloc (.cells zS 34) = wc at a1 hbw ⊢
  clear hW
  have hz8 : ¬ zS.size < 8 := by decide
  go_wp2_with (refine wpList_store_arr rfl _ (.tmp 0) (.tmp 2) rfl w.heap.size 0 73 34 _ (sC h0 (List.replicate 64 0) 0) _ rfl rfl rfl a1 (by rw [hL.out]; omega) hI.out (sC_cell _ _ _) ?_; intro w6 f2 o6; have hbw6 := hbw.trans o6.bel; rw [setAll_e3 _ hL.out] at f2)
  exact bodyPost_ret (results_one rfl _ _ w.heap.size (sC h0 (List.replicate 64 0) 0) _ rfl f2.range Tryd.underlying34 rfl hI.out) rfl ⟨rfl, hbw6⟩

/-- The stream whose message is m. -/
def stm (m : List Nat) : List Value := sC (sWords m) (sBlock m) m.length
theorem stm_nil : stm [] = sC h0 (List.replicate 64 0) 0 := rfl
theorem stm_len (m : List Nat) : (stm m).length = 73 := sC_len _ _ _ (sWords_len m) (sBlock_len m)
theorem split_rest (m : List Nat) : stm m = (us (sWords m) ++ bs (sRest m)) ++ bs (List.replicate (64 - m.length % 64) 0) ++ [.int .u64 (m.length : Int)] := by
  unfold stm sC sBlock; rw [bs_app]; simp
theorem sb_extract (T : ByteArray) (n : Nat) : sb (T.extract n T.size) = (sb T).drop n := by
  unfold sb
  rw [Lib.extract_to_end, List.map_drop]
theorem sb_empty (T : ByteArray) (h : T.size = 0) : sb T = [] := List.eq_nil_of_length_eq_zero (by rw [sb_len]; exact h)
theorem stm_part (m x : List Nat) (k : Nat) (hk : k = m.length % 64) (h : k + x.length < 64) : setAll (stm m) (8 + k) (bs x) = sC (sWords (m ++ x)) (sBlock (m ++ x)) m.length := by
  subst hk
  obtain ⟨e1, e2⟩ := sAdd_part m x h
  have hr : List.replicate (64 - m.length % 64) 0 = List.replicate x.length 0 ++ List.replicate (64 - m.length % 64 - x.length) 0 := by
    rw [List.replicate_append_replicate]; congr 1; omega
  have hs : stm m = (us (sWords m) ++ bs (sRest m)) ++ bs (List.replicate x.length 0) ++ (bs (List.replicate (64 - m.length % 64 - x.length) 0) ++ [.int .u64 (m.length : Int)]) := by
    rw [split_rest, hr, bs_app]; simp
  rw [hs, setAll_mid _ _ _ _ _ (by rw [List.length_append, us_len, sWords_len, bs_len, sRest_len]) (by rw [bs_len, bs_len, List.length_replicate]), e1, e2]
  unfold sC
  rw [bs_app, bs_app]; simp
theorem stm_full (m x : List Nat) (k : Nat) (hk : k = m.length % 64) (h : k + x.length = 64) : setAll (stm m) (8 + k) (bs x) = sC (sWords m) (sRest m ++ x) m.length := by
  subst hk
  have hs := split_rest m
  rw [show 64 - m.length % 64 = x.length by omega] at hs
  rw [hs, setAll_mid _ _ _ _ _ (by rw [List.length_append, us_len, sWords_len, bs_len, sRest_len]) (by rw [bs_len, bs_len, List.length_replicate])]
  unfold sC
  rw [bs_app]; simp
/-- The length is set. -/
theorem sC_setLen (ws blk : List Nat) (n N : Nat) (hw : ws.length = 8) (hb : blk.length = 64) : (sC ws blk n).set 72 (.int .u64 (N : Int)) = sC ws blk N := by
  unfold sC
  rw [List.set_append_right _ _ (by rw [List.length_append, us_len, bs_len]; omega)]
  rw [show 72 - (us ws ++ bs blk).length = 0 by rw [List.length_append, us_len, bs_len]; omega]; rfl
theorem sC_len_get (ws blk : List Nat) (n : Nat) (hw : ws.length = 8) (hb : blk.length = 64) : (sC ws blk n)[72]? = some (.int .u64 (n : Int)) := by
  unfold sC
  rw [List.getElem?_append_right (by rw [List.length_append, us_len, bs_len]; omega)]
  rw [show 72 - (us ws ++ bs blk).length = 0 by rw [List.length_append, us_len, bs_len]; omega]; rfl
end Go.Proofs.YtbfoajfpnfkfnaaDoor
