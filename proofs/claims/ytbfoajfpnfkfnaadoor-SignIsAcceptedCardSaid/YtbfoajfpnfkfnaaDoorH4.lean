import Derived.Test.YtbfoajfpnfkfnaaDoorH3
set_option linter.unusedVariables false
namespace Go.Proofs.YtbfoajfpnfkfnaaDoor
open Go.RowKit

/-- Values set one after the other. -/
def setAll : List Value → Nat → List Value → List Value
  | ys, _, [] => ys
  | ys, o, v :: r => setAll (ys.set o v) (o + 1) r
theorem Arr.setCells {g n : Nat} {e : TypeId} : ∀ (vs : List Value) {w : World} {o : Nat} {xs : List Value}, Arr w g n e xs → Arr (w.setCells g o vs) g n e (setAll xs o vs)
  | [], _, _, _, h => h
  | v :: r, w, o, xs, h => Arr.setCells r (h.set_ o v)
theorem setAll_eq : ∀ (vs : List Value) (ys : List Value) (o : Nat), o + vs.length ≤ ys.length → setAll ys o vs = ys.take o ++ vs ++ ys.drop (o + vs.length)
  | [], ys, o, _ => by simp [setAll]
  | v :: r, ys, o, h => by
    have h : o + (r.length + 1) ≤ ys.length := h
    rw [setAll, setAll_eq r (ys.set o v) (o + 1) (by simp; omega)]
    have e1 : (ys.set o v).take (o + 1) = ys.take o ++ [v] := by
      rw [List.take_succ_eq_append_getElem (by simp; omega), List.getElem_set_self, List.take_set_of_le (Nat.le_refl _)]
    have e2 : (ys.set o v).drop (o + 1 + r.length) = ys.drop (o + (v :: r).length) := by
      rw [List.drop_set_of_lt (by omega)]; congr 1; simp; omega
    rw [e1, e2]; simp
/-- A part in the middle is replaced. -/
theorem setAll_mid (a x y b : List Value) (k : Nat) (hk : k = a.length) (h : y.length = x.length) : setAll (a ++ x ++ b) k y = a ++ y ++ b := by
  subst hk
  rw [setAll_eq _ _ _ (by simp; omega), h, List.append_assoc a x b]
  simp [List.drop_append]
/-- One block alone has changed. -/
def Only (g : Nat) (w w' : World) : Prop := Below g w w' ∧ ∀ k, k ≠ g → w'.heap[k]? = w.heap[k]?
theorem Only.bel {g : Nat} {w w' : World} (h : Only g w w') : Below g w w' := h.1
theorem heap_setCells (b k : Nat) (hk : k ≠ b) : ∀ (vs : List Value) (o : Nat) (w : World), (w.setCells b o vs).heap[k]? = w.heap[k]?
  | [], _, _ => rfl
  | v :: r, o, w => by rw [World.setCells, heap_setCells b k hk r]; exact Below.heap_setCell _ _ _ _ hk
theorem Only.setCells (g o : Nat) (vs : List Value) (w : World) : Only g w (w.setCells g o vs) := ⟨below_setCells vs o w (Below.refl _ w) (Nat.le_refl _), fun k hk => heap_setCells g k hk vs o w⟩
theorem Arr.only {W W' : World} {b g n : Nat} {e : TypeId} {xs : List Value} (h : Arr W b n e xs) (ho : Only g W W') (hb : b ≠ g) : Arr W' b n e xs := by
  refine ⟨h.1, ?_⟩
  rcases h.2 with h2 | ⟨g', cap, cur, hv, hg, hh, r⟩
  · exact .inl h2
  · refine .inr ⟨g', cap, cur, hv, hg, ?_, r⟩
    rw [ho.2 _ (by cases hv; exact hb)]
    exact hh
theorem Arr.mid {W : World} {g n k : Nat} {e : TypeId} {a x b : List Value} (h : Arr W g n e (a ++ x ++ b)) (hk : k = a.length) : W.rangeAt g k x := by
  subst hk
  intro j v hv
  have hj := (List.getElem?_eq_some_iff.1 hv).1
  refine h.cell ?_
  rw [List.append_assoc, List.getElem?_append_right (by omega), Nat.add_sub_cancel_left, List.getElem?_append_left hj]
  exact hv
theorem Arr.thereAt {W : World} {g n o k : Nat} {e : TypeId} {xs : List Value} (h : Arr W g n e xs) (hk : o + k ≤ n) : W.there g o k := fun j hj => by
  refine ⟨?_, h.free _⟩
  rw [World.ownsRow.cellAt h (o + j) (by omega), List.getElem?_eq_getElem (by have := h.1; omega)]
  rfl
/-- A whole array or struct is stored into a part of a variable of the call's own. -/
theorem wpList_store_arr {P : Program} {ops : Array Oper} {rest : List Oper} {op : Oper} {a : Act} {w : World} {Q : Exit → Act → World → Prop} (hgd : op.guard = none) (ty : TypeId) (x y : Operand) (ho : op.op = .store ty x y)
    (g k n : Nat) (e : TypeId) (cs : Array Value) (vs xs : List Value) (hx : a.eval x = .pointer (some ⟨g, k, none⟩)) (hy : a.eval y = .agg cs) (hcs : cs = vs.toArray)
    (hA : Arr w g n e xs) (hfit : k + vs.length ≤ n) (hi : (P.info? ty).map (·.size) = some vs.length) (h1 : ∀ v ∈ vs, v.oneCell' = true)
    (h : ∀ w', Arr w' g n e (setAll xs k vs) → Only g w w' → wpList P ops Q rest (a.put op.dst undef) w') : wpList P ops Q (op :: rest) a w := by
  subst hcs
  exact wpList_store_mid hgd ty x y ho g k vs.toArray hx hy (hA.thereAt (by simpa using hfit)) (by simpa using hi) (all_oneCell_toArray h1) (h _ (hA.setCells vs) (Only.setCells g k vs w))

/-- What a stream holds. -/
def sC (ws blk : List Nat) (n : Nat) : List Value := us ws ++ bs blk ++ [.int .u64 (n : Int)]
theorem sC_len (ws blk : List Nat) (n : Nat) (h : ws.length = 8) (h2 : blk.length = 64) : (sC ws blk n).length = 73 := by
  unfold sC; rw [List.length_append, List.length_append, us_len, bs_len, h, h2]; rfl
theorem sC_cell (ws blk : List Nat) (n : Nat) : ∀ u ∈ sC ws blk n, u.oneCell' = true := by
  intro u hu
  unfold sC at hu
  rcases List.mem_append.1 hu with hu | hu
  · rcases List.mem_append.1 hu with hu | hu
    · exact us_cell _ u hu
    · exact bs_cell _ u hu
  · rw [List.mem_singleton] at hu; subst hu; rfl
theorem info_stream : (Tryd.prog.info? 34).map (·.size) = some 73 := by kernel_rfl
theorem two_new (w : World) (e1 e2 : TypeId) (c1 c2 : Array Value) (xs1 xs2 : List Value) (n1 n2 : Nat) (h1 : c1.toList = xs1) (h2 : c2.toList = xs2) (l1 : xs1.length = n1) (l2 : xs2.length = n2) (m1 : n1 ≤ 1000) (m2 : n2 ≤ 1000) :
    Arr ((w.alloc (.cells c1 e1)).alloc (.cells c2 e2)) w.heap.size n1 e1 xs1 ∧ Arr ((w.alloc (.cells c1 e1)).alloc (.cells c2 e2)) (w.heap.size + 1) n2 e2 xs2 ∧ Below w.heap.size w ((w.alloc (.cells c1 e1)).alloc (.cells c2 e2)) := by
  have s1 : (w.alloc (.cells c1 e1)).heap.size = w.heap.size + 1 := by simp
  have a1 := Arr.new' w e1 c1 n1 xs1 h1 l1 m1
  have a2 := Arr.new' (w.alloc (.cells c1 e1)) e2 c2 n2 xs2 h2 l2 m2
  rw [s1] at a2
  have b2 := new_later (w.alloc (.cells c1 e1)) (.cells c2 e2)
  exact ⟨a1.later b2, a2, later (new_later w _) b2⟩
theorem split_ws (ws blk : List Nat) (n : Nat) : sC ws blk n = [] ++ us ws ++ (bs blk ++ [.int .u64 (n : Int)]) := by unfold sC; simp
theorem split_blk (ws blk : List Nat) (n : Nat) : sC ws blk n = us ws ++ bs blk ++ [.int .u64 (n : Int)] := rfl

theorem zS_len : (sC (List.replicate 8 0) (List.replicate 64 0) 0).length = 73 := rfl
theorem setAll_e1 (ws Z blk : List Nat) (n : Nat) (h : (us ws).length = 8) (h2 : (us Z).length = 8) : setAll (sC ws blk n) 0 (us Z) = sC Z blk n := by
  rw [split_ws, setAll_mid [] (us ws) (us Z) _ 0 rfl (by omega), ← split_ws]
theorem setAll_e2 (ws blk : List Nat) (n : Nat) (h : (us ws).length = 8) (h2 : (bs blk).length = 64) : setAll (sC ws blk n) 8 (bs (List.replicate 64 0)) = sC ws (List.replicate 64 0) n := by
  rw [split_blk, setAll_mid (us ws) (bs blk) _ _ 8 (by omega) (by rw [h2, bs_len]; rfl)]; rfl
theorem setAll_e3 (vs : List Value) (h : vs.length = 73) : setAll (sC (List.replicate 8 0) (List.replicate 64 0) 0) 0 vs = vs := by
  rw [setAll_eq _ _ _ (by rw [h, zS_len]; omega)]
  rw [List.drop_of_length_le (by rw [h, zS_len]; omega)]; simp
/-- A stream of zeros. -/
def zS : Array Value := (sC (List.replicate 8 0) (List.replicate 64 0) 0).toArray
theorem zero_stream (W : World) : (zeroValue 34).run Tryd.prog W = .ok (.agg zS) W := by kernel_rfl
theorem zS_list : zS.toList = sC (List.replicate 8 0) (List.replicate 64 0) 0 := rfl

set_option maxHeartbeats 2000000 in
set_option maxRecDepth 100000 in
theorem flush_aux (ws blk Z : List Nat) (n : Nat) (hw : ws.length = 8) (hwa : AllW ws) (hl : blk.length = 64) (hb : AllB blk) (w : World) (hk : Kc w) (HZ : Hid (comp ws blk = Z)) :
    Calls Tryd.prog 40 #[.agg (sC ws blk n).toArray] w fun e w' => e = .returned (.agg (sC Z (List.replicate 64 0) n).toArray) ∧ Below w.heap.size w w' := by
  have HC : Hid (∀ W, Kc W → Calls Tryd.prog 60 #[.agg (us ws).toArray, .agg (bs blk).toArray] W fun e w' => e = .returned (.agg (us Z).toArray) ∧ Below W.heap.size W w') := fun W hW => by rw [← HZ.out]; exact compress_any ws blk hw hwa hl hb W hW
  have HZL : Hid ((us Z).length = 8) := by show (us Z).length = 8; rw [us_len, ← HZ.out]; exact comp_len blk hw
  have HS := Lib.hid (sC_len ws blk n hw hl)
  have HW := Lib.hid (show (us ws).length = 8 by rw [us_len, hw])
  have HB := Lib.hid (show (bs blk).length = 64 by rw [bs_len, hl])
  have HK := Lib.hid hk
  have HSL : Hid ((sC Z (List.replicate 64 0) n).length = 73) := sC_len Z _ n (by rw [← HZ.out]; exact comp_len blk hw) (by simp)
  have HSI : Hid ((Tryd.prog.info? 34).map (·.size) = some (sC Z (List.replicate 64 0) n).length) := by
    show (Tryd.prog.info? 34).map (·.size) = some (sC Z (List.replicate 64 0) n).length
    rw [HSL.out]; exact info_stream
  clear HZ hw hwa hl hb hk
  go_enter Tryd.func40, Tryd.ntmps40
  have hz := zero_stream
  go_upto_region 1 with fail
  obtain ⟨a1, a2, hbw⟩ := two_new w 34 34 (sC ws blk n).toArray zS _ _ 73 73 rfl zS_list HS.out zS_len (by decide) (by decide)
  generalize hW : (w.alloc (.cells (sC ws blk n).toArray 34)).alloc (.cells zS 34) = wc at a1 a2 hbw ⊢
  clear hW hz
  have r1 := Lib.hid (Arr.mid (k := 0) (by rw [split_ws] at a1; exact a1) rfl)
  have r2 := Lib.hid (Arr.mid (k := 8) a1 (by rw [HW.out]))
  have hkc := HK.out.later hbw
  have z64 : Hid ((bs (List.replicate 64 0)).length = 64) := by show (bs (List.replicate 64 0)).length = 64; rw [bs_len]; rfl
  go_wp2_with (first
    | (with_reducible refine wpList_load_mid rfl _ (.tmp 3) rfl w.heap.size 0 rfl (us ws) _ r1.out Tryd.underlying30 rfl (by rw [HW.out]; exact info_state) ?_)
    | (with_reducible refine wpList_load_mid rfl _ (.tmp 5) rfl w.heap.size 8 rfl (bs blk) _ r2.out Tryd.underlying31 rfl (by rw [HB.out]; exact info_block) ?_)
    | (go_at_call 60; refine (HC.out _ hkc).mono ?_; rintro e w3 ⟨rfl, hb3⟩; have c1 := a1.later hb3; have c2 := a2.later hb3; have hbw3 := later hbw hb3; clear a1 a2 hbw hb3)
    | (refine wpList_store_arr rfl _ (.tmp 8) (.tmp 7) rfl w.heap.size 0 73 34 _ (us Z) _ rfl rfl rfl c1 (by have := HZL.out; omega) (by rw [HZL.out]; exact info_state) (us_cell Z) ?_; intro w4 d1 o4; have d2 := c2.only o4 (by omega); have hbw4 := hbw3.trans o4.bel; clear c1 c2 hbw3 o4)
    | (refine wpList_store_arr rfl _ (.tmp 10) (.tmp 9) rfl w.heap.size 8 73 34 _ (bs (List.replicate 64 0)) _ rfl rfl rfl d1 (by have := z64.out; omega) (by rw [z64.out]; exact info_block) (bs_cell _) ?_; intro w5 e1 o5; have e2 := d2.only o5 (by omega); have hbw5 := hbw4.trans o5.bel; rw [setAll_e1 ws Z blk n HW.out HZL.out, setAll_e2 Z blk n HZL.out HB.out] at e1; have hR := Lib.hid e1.range; clear d1 d2 hbw4 o5)
    | (with_reducible refine wpList_load_mid rfl _ (.tmp 1) rfl w.heap.size 0 rfl (sC Z (List.replicate 64 0) n) _ hR.out Tryd.underlying34 rfl HSI.out ?_)
    | (refine wpList_store_arr rfl _ (.tmp 2) (.tmp 11) rfl (w.heap.size + 1) 0 73 34 _ (sC Z (List.replicate 64 0) n) _ rfl rfl rfl e2 (by rw [HSL.out]; omega) HSI.out (sC_cell _ _ _) ?_; intro w6 f2 o6; have hbw6 := hbw5.trans (o6.bel.mono (by omega : w.heap.size ≤ w.heap.size + 1)); rw [setAll_e3 _ HSL.out] at f2))
  exact bodyPost_ret (results_one rfl _ _ (w.heap.size + 1) (sC Z (List.replicate 64 0) n) _ rfl f2.range Tryd.underlying34 rfl HSI.out) rfl ⟨rfl, hbw6⟩
theorem flush_any (ws blk : List Nat) (n : Nat) (hw : ws.length = 8) (hwa : AllW ws) (hl : blk.length = 64) (hb : AllB blk) (w : World) (hk : Kc w) :
    Calls Tryd.prog 40 #[.agg (sC ws blk n).toArray] w fun e w' => e = .returned (.agg (sC (comp ws blk) (List.replicate 64 0) n).toArray) ∧ Below w.heap.size w w' :=
  flush_aux ws blk (comp ws blk) n hw hwa hl hb w hk (Lib.hid rfl)
end Go.Proofs.YtbfoajfpnfkfnaaDoor
