import Derived.Test.YtbfoajfpnfkfnaaDoorS12
import Derived.Laws.EntriesVeiled
set_option linter.unusedVariables false
set_option linter.unusedSimpArgs false
namespace Go.Proofs.YtbfoajfpnfkfnaaDoor
open Go.RowKit

theorem node_any (gs gn gh gi gb gr h idx : Nat) (sd : List Nat) (hg2 : 2 ≤ gr) (hh : h ≤ 6) (hi : idx < 64) (hsd : AllB sd) (hsl : sd.length ≤ 1000) : ∀ (l k : Nat), l ≤ 6 → k < 2 ^ (6 - l) → ∀ (W : World) (L : List ByteArray), Env W gs gn gh gi gb gr h idx sd → Arr W gr h 9 (ss L) → L.length = h → Kc W →
    Calls Tryd.prog 65 #[.int .i64 (l : Int), .int .i64 (k : Int), .pointer (some ⟨gs, 0, none⟩), .pointer (some ⟨gn, 0, none⟩), .pointer (some ⟨gh, 0, none⟩), .pointer (some ⟨gi, 0, none⟩), .pointer (some ⟨gb, 0, none⟩)] W (NodeRes gr h idx l k sd L W)
  | 0, k, _, hk, W, L, E, A, hL, hK => node_zero gs gn gh gi gb gr h idx k sd L W E A hL hh hi (by simpa using hk) hsd hsl hK
  | l + 1, k, hl, hk, W, L, E, A, hL, hK => by
    have hp : 2 ^ (6 - l) = 2 ^ (6 - (l + 1)) * 2 := by rw [show 6 - l = (6 - (l + 1)) + 1 by omega, Nat.pow_succ]
    have hp2 : 2 ^ (6 - (l + 1)) ≤ 2 ^ 5 := Nat.pow_le_pow_right (by decide) (by omega)
    refine node_succ gs gn gh gi gb gr h idx l (l + 1) k (2 * k) (2 * k + 1) sd L W rfl rfl rfl hg2 E A hL hh hi (by omega) (by omega) hK ?_
    intro kk hkk X M eX aX hM kX
    exact node_any gs gn gh gi gb gr h idx sd hg2 hh hi hsd hsl l kk (by omega) (by rcases hkk with rfl | rfl <;> omega) X M eX aX hM kX

/-- 'make([]T, n)', T of one cell. -/
theorem wpList_makeV {P : Program} {w : World} {ops : Array Oper} {rest : List Oper} {o : Oper} {a : Act} {Q : Exit → Act → World → Prop} {t e : TypeId} {z : Value} {bytes n : Nat} {kl kc : IntKind} {L C : Int}
    (h1 : P.underlying t = some (.slice e)) (hi : (P.info? e).map (fun i => (i.zero, i.size, i.bytes)) = some (some z, 1, bytes)) (hz : z.cells = #[z]) (b2 : bytes * n ≤ 281474976710656) (b3 : n ≤ maxLen)
    (hg : o.guard = none) (l c : Operand) (hop : o.op = Op.makeSlice t l c) (hl : a.eval l = .int kl L) (hc : a.eval c = .int kc C) (hL : L = (n : Int)) (hC : C = (n : Int))
    (hK : ∀ w', w'.ownsRow w.heap.size e 1 (.slice (some ⟨w.heap.size, 0, none⟩) n n) n (List.replicate n z) → Below w.heap.size w w' → w.heap.size < w'.heap.size → wpList P ops Q rest (a.put o.dst (.slice (some ⟨w.heap.size, 0, none⟩) n n)) w') :
    wpList P ops Q (o :: rest) a w := by
  obtain ⟨i0, hi0, hz0, hz1, hz2⟩ := info_parts hi
  refine wpList_make_full w hg l c t hop w.heap.size e i0 z 1 h1 hi0 hz0 hz1 kl kc L C n hl hc hL hC (by rw [hz2]; exact b2) b3 (Nat.le_refl _) ?_
  intro w' h2 h3
  rw [hz, Nat.mul_one, toList_madeCells_one] at h2
  exact hK w' h2 ((Below.refl _ w).grown h3 (Nat.le_refl _) (fun k h => by cases h)) (World.ownsRow.lt h2 w.heap.size rfl).2
theorem info_str : (Tryd.prog.info? 9).map (fun i => (i.zero, i.size, i.bytes)) = some (some (.string ⟨#[]⟩), 1, 16) := by kernel_rfl

theorem results_duo {P : Program} {fn : Func} {p q : Tmp} {ty : TypeId} (h : fn.results = #[.cell p ty, .tmp q]) (tmps : Array Value) (w : World) (g : Nat) (cs : List Value) (d : TypeDesc) (v : Value)
    (hp : tmps.getD p undef = .pointer (some ⟨g, 0, none⟩)) (hq : tmps.getD q undef = v) (hg : w.rangeAt g 0 cs)
    (hu : P.underlying ty = some d) (hd : d.isRow = true) (hi : (P.info? ty).map (·.size) = some cs.length) :
    (results fn tmps).run P w = .ok (.tuple #[.agg cs.toArray, v]) w := by
  have hp' : tmps[p]?.getD undef = .pointer (some ⟨g, 0, none⟩) := by simpa using hp
  have hq' : tmps[q]?.getD undef = v := by simpa using hq
  simp [results, h, hp', hq', asAddr, run_loadVar_mid w g 0 ty cs d hg hu hd hi]
theorem quad_new (w : World) (sd : List Nat) (h idx : Nat) (w4 : World) (hw : w4 = (((w.alloc (.cells #[.string (mkS sd)] 9)).alloc (.cells #[.int .i64 (h : Int)] 3)).alloc (.cells #[.int .i64 (idx : Int)] 3)).alloc (.cells #[.int .u8 0, .int .u8 0, .int .u8 0, .int .u8 0, .int .u8 0, .int .u8 0, .int .u8 0, .int .u8 0, .int .u8 0, .int .u8 0, .int .u8 0, .int .u8 0, .int .u8 0, .int .u8 0, .int .u8 0, .int .u8 0] 44)) :
    w4.cell? ⟨w.heap.size, 0, none⟩ = some (.string (mkS sd)) ∧ w4.cell? ⟨w.heap.size + 1, 0, none⟩ = some (.int .i64 (h : Int)) ∧ w4.cell? ⟨w.heap.size + 1 + 1, 0, none⟩ = some (.int .i64 (idx : Int)) ∧ Arr w4 (w.heap.size + 1 + 1 + 1) 16 44 (bs (List.replicate 16 0)) ∧ Below w.heap.size w w4 ∧ w4.heap.size = w.heap.size + 1 + 1 + 1 + 1 := by
  subst hw
  refine ⟨by simp [go_sem], by simp [go_sem], by simp [go_sem], ?_, later (later (later (new_later _ _) (new_later _ _)) (new_later _ _)) (new_later _ _), by simp⟩
  have h := Arr.new' ((((w.alloc (.cells #[.string (mkS sd)] 9)).alloc (.cells #[.int .i64 (h : Int)] 3)).alloc (.cells #[.int .i64 (idx : Int)] 3))) 44 #[.int .u8 0, .int .u8 0, .int .u8 0, .int .u8 0, .int .u8 0, .int .u8 0, .int .u8 0, .int .u8 0, .int .u8 0, .int .u8 0, .int .u8 0, .int .u8 0, .int .u8 0, .int .u8 0, .int .u8 0, .int .u8 0] 16 (bs (List.replicate 16 0)) rfl (by simp [bs]) (by decide)
  simpa using h

set_option maxHeartbeats 2000000 in
set_option maxRecDepth 100000 in
theorem tree_any (h idx : Nat) (sd : List Nat) (w : World) (hh : h ≤ 6) (hi : idx < 2 ^ h) (hsd : AllB sd) (hsl : sd.length ≤ 1000) (hK : Kc w) :
    Calls Tryd.prog 50 #[.string (mkS sd), .int .i64 (h : Int), .int .i64 (idx : Int)] w fun e w' => ∃ g, e = .returned (.tuple #[.agg (bs (nodeL sd h 0)).toArray, .slice (some ⟨g, 0, none⟩) h h]) ∧ w.heap.size ≤ g ∧ Arr w' g h 9 (ss ((besL sd h idx).map mkS)) ∧ Below w.heap.size w w' := by
  have h2 := hK.1
  have hi64 : idx < 64 := Nat.lt_of_lt_of_le hi (Nat.le_trans (Nat.pow_le_pow_right (by decide) hh) (by decide))
  have hh0 : (0 : Int) ≤ (h : Int) := by omega
  go_enter Tryd.func50, Tryd.ntmps50
  go_upto_region 1 with fail
  generalize hW : (((w.alloc (.cells #[.string (mkS sd)] 9)).alloc (.cells #[.int .i64 (h : Int)] 3)).alloc (.cells #[.int .i64 (idx : Int)] 3)).alloc (.cells #[.int .u8 0, .int .u8 0, .int .u8 0, .int .u8 0, .int .u8 0, .int .u8 0, .int .u8 0, .int .u8 0, .int .u8 0, .int .u8 0, .int .u8 0, .int .u8 0, .int .u8 0, .int .u8 0, .int .u8 0, .int .u8 0] 44) = w4
  obtain ⟨c0, c1, c2, A3, V4, hsz⟩ := quad_new w sd h idx w4 hW.symm
  have HSZ := Lib.hid hsz
  clear hW hsz
  go_upto_region 4 with (refine wpList_makeV (n := h) Tryd.underlying27 info_str rfl (by omega) (by unfold maxLen; omega) rfl _ _ rfl rfl rfl rfl rfl ?_; intro w5 hown5 hbel5 hlt5)
  have hlt5' : w4.heap.size < w5.heap.size := hlt5
  have hsz5 := HSZ.out
  have hini : ∃ w6 : World, w6 = (w5.alloc (.cells #[.slice (some ⟨w4.heap.size, 0, none⟩) h h] 27)).alloc (.cells #[.func (.func 65) #[] #[.pointer (some ⟨w.heap.size, 0, none⟩), .pointer (some ⟨w5.heap.size + 1, 0, none⟩), .pointer (some ⟨w.heap.size + 1, 0, none⟩), .pointer (some ⟨w.heap.size + 1 + 1, 0, none⟩), .pointer (some ⟨w5.heap.size, 0, none⟩)]] 94) ∧ w6.cell? ⟨w5.heap.size, 0, none⟩ = some (.slice (some ⟨w4.heap.size, 0, none⟩) h h) ∧ w6.cell? ⟨w5.heap.size + 1, 0, none⟩ = some (.func (.func 65) #[] #[.pointer (some ⟨w.heap.size, 0, none⟩), .pointer (some ⟨w5.heap.size + 1, 0, none⟩), .pointer (some ⟨w.heap.size + 1, 0, none⟩), .pointer (some ⟨w.heap.size + 1 + 1, 0, none⟩), .pointer (some ⟨w5.heap.size, 0, none⟩)]) ∧ Below w5.heap.size w5 w6 ∧ w6.heap.size = w5.heap.size + 1 + 1 :=
    ⟨_, rfl, by simp [go_sem], by simp [go_sem], later (new_later _ _) (new_later _ _), by simp⟩
  obtain ⟨w6, hw6, hcb, hcn, hb6, hs6⟩ := hini
  rw [← hw6]
  have V5 := later V4 hbel5
  have V6 := later V5 hb6
  have A6 : Arr w6 w4.heap.size h 9 (ss (List.replicate h ⟨#[]⟩)) := by
    have h5 : Arr w5 w4.heap.size h 9 (ss (List.replicate h ⟨#[]⟩)) := by
      unfold ss; rw [List.map_replicate]; exact hown5
    exact h5.later hb6
  have D6 := (A3.later hbel5).later hb6
  have E6 : Env w6 w.heap.size (w5.heap.size + 1) (w.heap.size + 1) (w.heap.size + 1 + 1) w5.heap.size w4.heap.size h idx sd :=
    ⟨((hb6.cell (by show w.heap.size < _; omega)).trans (hbel5.cell (by show w.heap.size < _; omega))).trans c0, hcn, ((hb6.cell (by show w.heap.size + 1 < _; omega)).trans (hbel5.cell (by show w.heap.size + 1 < _; omega))).trans c1,
      ((hb6.cell (by show w.heap.size + 1 + 1 < _; omega)).trans (hbel5.cell (by show w.heap.size + 1 + 1 < _; omega))).trans c2, hcb, by omega, by omega, by omega, by omega, by omega⟩
  have HN : Hid (Calls Tryd.prog 65 #[.int .i64 (h : Int), .int .i64 0, .pointer (some ⟨w.heap.size, 0, none⟩), .pointer (some ⟨w5.heap.size + 1, 0, none⟩), .pointer (some ⟨w.heap.size + 1, 0, none⟩), .pointer (some ⟨w.heap.size + 1 + 1, 0, none⟩), .pointer (some ⟨w5.heap.size, 0, none⟩)] w6 (NodeRes w4.heap.size h idx h 0 sd (List.replicate h ⟨#[]⟩) w6)) :=
    Lib.hid (node_any w.heap.size (w5.heap.size + 1) (w.heap.size + 1) (w.heap.size + 1 + 1) w5.heap.size w4.heap.size h idx sd (by omega) hh hi64 hsd hsl h 0 hh (Nat.pow_pos (by decide)) w6 _ E6 A6 (by simp) (hK.later V6))
  have hch := E6.ch
  have hn1 : w.heap.size + 1 + 1 + 1 ≠ w4.heap.size := by omega
  have hn2 : w.heap.size ≤ w4.heap.size := by omega
  have HD16 : Hid ((nodeL sd h 0).length = 16) := Lib.hid (nodeL_len _ _ _)
  obtain ⟨D, HD⟩ : ∃ D, Hid (nodeL sd h 0 = D) := ⟨_, Lib.hid rfl⟩
  rw [HD.out] at HD16
  have HDB : Hid ((bs D).length = 16) := Lib.hid (by rw [bs_len, HD16.out])
  have HLA : Hid (∀ L', Laid sd h idx h 0 (List.replicate h ⟨#[]⟩) L' → L' = (besL sd h idx).map mkS) := Lib.hid fun L' hl => hl.all hi
  have HRES : Hid (∀ e w', NodeRes w4.heap.size h idx h 0 sd (List.replicate h ⟨#[]⟩) w6 e w' → e = .returned (.agg (bs D).toArray) ∧ Arr w' w4.heap.size h 9 (ss ((besL sd h idx).map mkS)) ∧ Fr w4.heap.size w6 w') := Lib.hid fun e w' ⟨he, L', ha, hl, hf⟩ => ⟨by rw [he, HD.out], by rw [← HLA.out L' hl]; exact ha, hf⟩
  obtain ⟨BL, HBL⟩ : ∃ BL, Hid ((besL sd h idx).map mkS = BL) := ⟨_, Lib.hid rfl⟩
  rw [HBL.out] at HRES
  clear hw6 E6 A6 hown5 hbel5 hb6 V5 A3 c0 c1 c2 V4 HLA hsz5
  go_upto_region 5 with (first
    | (go_at_call 65; (with_reducible refine HN.out.mono ?_); intro e w7 hres; obtain ⟨rfl, A7, F7⟩ := HRES.out e w7 hres; have D7 := D6.fr F7 hn1; have C7 := F7.cell (by omega : w5.heap.size ≠ w4.heap.size) hcb; have V7 : Below w.heap.size w w7 := V6.trans (F7.1.mono hn2); have z7 := F7.1.size; clear hres HN HRES)
    | (with_reducible refine wpList_store_new rfl _ (.tmp 10) (.tmp 16) rfl rfl rfl info_dig HDB.out rfl (all_oneCell_toArray (bs_cell D)) ?_; intro w8 hbel8 hrow8 hsz8; have T8 : Arr w8 w7.heap.size 16 44 (bs D) := Arr.of_row hrow8 HDB.out (by decide); have V8 := later V7 hbel8; have D8 := D7.later hbel8; have A8 := A7.later hbel8; have C8 := (hbel8.cell (World.block_lt_of_cell? w7 _ C7)).trans C7; clear hrow8))
  go_frame
  have hu := Tryd.underlying44
  have hiz : (Tryd.prog.info? 44).map (·.size) = some (bs D).length := by rw [HDB.out]; exact info_dig
  have hzl : (bs D).length = 16 := HDB.out
  have hz1 : ∀ v ∈ bs D, v.oneCell' = true := bs_cell D
  have T8d : Arr w8.drew w7.heap.size 16 44 (bs D) := T8
  have D8d : Arr w8.drew (w.heap.size + 1 + 1 + 1) 16 44 (bs (List.replicate 16 0)) := D8
  have C8d : w8.drew.cell? ⟨w5.heap.size, 0, none⟩ = some (.slice (some ⟨w4.heap.size, 0, none⟩) h h) := C8
  have hz4 := HSZ.out
  have hz6 : w.heap.size + 1 + 1 + 1 < w7.heap.size := by omega
  have O9 := Only.setCells (w.heap.size + 1 + 1 + 1) 0 (bs D) w8.drew
  have hk9 : (w8.drew.setCells (w.heap.size + 1 + 1 + 1) 0 (bs D)).rangeAt w7.heap.size 0 (bs D) ∧ (w8.drew.setCells (w.heap.size + 1 + 1 + 1) 0 (bs D)).cell? ⟨w5.heap.size, 0, none⟩ = some (.slice (some ⟨w4.heap.size, 0, none⟩) h h) ∧ (w8.drew.setCells (w.heap.size + 1 + 1 + 1) 0 (bs D)).there (w.heap.size + 1 + 1 + 1) 0 16 :=
    ⟨(T8d.only O9 (by omega)).range, (cell_heap (p := ⟨w5.heap.size, 0, none⟩) (O9.2 w5.heap.size (by omega))).trans C8d, (D8d.setCells (o := 0) (bs D)).there⟩
  go_region_held3 (fun X => X.rangeAt w7.heap.size 0 (bs D) ∧ X.cell? ⟨w5.heap.size, 0, none⟩ = some (.slice (some ⟨w4.heap.size, 0, none⟩) h h) ∧ X.there (w.heap.size + 1 + 1 + 1) 0 16)
    (first | exact ⟨T8d.range, C8d, D8d.there⟩ | exact hk9) (fail)
  have f9 := D8d.setCells (o := 0) (bs D)
  rw [setAll_all _ _ (by rw [HDB.out]; simp [bs])] at f9
  have A8d : Arr w8.drew w4.heap.size h 9 (ss BL) := A8
  have A9 := A8d.only O9 (by omega)
  rw [hz4] at A9
  have V9 : Below w.heap.size w (w8.drew.setCells (w.heap.size + 1 + 1 + 1) 0 (bs D)) := (below_drew V8).trans (O9.bel.mono (by omega))
  have HFIN : Hid (∃ g, Ending.returned (.tuple #[.agg (bs D).toArray, .slice (some ⟨w.heap.size + 1 + 1 + 1 + 1, 0, none⟩) h h]) = .returned (.tuple #[.agg (bs (nodeL sd h 0)).toArray, .slice (some ⟨g, 0, none⟩) h h]) ∧ w.heap.size ≤ g ∧ Arr (w8.drew.setCells (w.heap.size + 1 + 1 + 1) 0 (bs D)) g h 9 (ss ((besL sd h idx).map mkS)) ∧ Below w.heap.size w (w8.drew.setCells (w.heap.size + 1 + 1 + 1) 0 (bs D))) :=
    Lib.hid ⟨_, by rw [HD.out], by omega, by rw [HBL.out]; exact A9, V9⟩
  all_goals
    go_wp2_with fail
    exact bodyPost_ret (v := .tuple #[.agg (bs D).toArray, .slice (some ⟨w.heap.size + 1 + 1 + 1 + 1, 0, none⟩) h h]) (results_duo rfl _ _ (w.heap.size + 1 + 1 + 1) (bs D) _ _ rfl rfl f9.range hu rfl hiz) rfl HFIN.out
end Go.Proofs.YtbfoajfpnfkfnaaDoor
set_option linter.unusedVariables false
set_option linter.unusedSimpArgs false
namespace Go.Proofs.YtbfoajfpnfkfnaaDoor
open Go.RowKit

theorem w64_pow (h : Nat) (hh : h ≤ 6) : wrap64 (2 ^ h) = ((2 ^ h : Nat) : Int) := by
  have : h = 0 ∨ h = 1 ∨ h = 2 ∨ h = 3 ∨ h = 4 ∨ h = 5 ∨ h = 6 := by omega
  rcases this with rfl | rfl | rfl | rfl | rfl | rfl | rfl <;> (rw [IntWalk.wrap64_in] <;> first | rfl | decide)
set_option maxHeartbeats 1000000 in
set_option maxRecDepth 100000 in
theorem isIndex_any (i h : Nat) (b : Bool) (w : World) (hh : h ≤ 6) (hb : decide (i < 2 ^ h) = b) : Calls Tryd.prog 51 #[.int .i64 (i : Int), .int .i64 (h : Int)] w fun e w' => e = .returned (.bool b) ∧ w' = w := by
  have HB : Hid (decide ((i : Int) < wrap64 (2 ^ h)) = b) := Lib.hid (by rw [w64_pow h hh, ← hb]; exact decide_eq_decide.2 Int.ofNat_lt)
  have h0 : (0 : Int) ≤ (i : Int) := by omega
  have hh0 : (0 : Int) ≤ (h : Int) := by omega
  clear hb
  go_enter Tryd.func51, Tryd.ntmps51
  go_wp2_with fail
  go_ret
  exact ⟨by rw [← HB.out]; rfl, rfl⟩
theorem isIndex_yes (i h : Nat) (w : World) (hh : h ≤ 6) (hi : i < 2 ^ h) : Calls Tryd.prog 51 #[.int .i64 (i : Int), .int .i64 (h : Int)] w fun e w' => e = .returned (.bool true) ∧ w' = w := isIndex_any i h true w hh (decide_eq_true hi)
theorem isIndex_no (i h : Nat) (w : World) (hh : h ≤ 6) (hi : ¬ i < 2 ^ h) : Calls Tryd.prog 51 #[.int .i64 (i : Int), .int .i64 (h : Int)] w fun e w' => e = .returned (.bool false) ∧ w' = w := isIndex_any i h false w hh (decide_eq_false hi)
set_option maxHeartbeats 1000000 in
set_option maxRecDepth 100000 in
theorem Public_any (h : Nat) (sd : List Nat) (w : World) (hh : h ≤ 6) (hsd : AllB sd) (hsl : sd.length = 32) (hK : Kc w) :
    Calls Tryd.prog 31 #[.string (mkS sd), .int .i64 (h : Int)] w fun e w' => e = .returned (.tuple #[.agg (bs (nodeL sd h 0)).toArray, .int .i64 0]) ∧ Below w.heap.size w w' := by
  have HT : Hid (∀ W, Below w.heap.size w W → Calls Tryd.prog 50 #[.string (mkS sd), .int .i64 (h : Int), .int .i64 0] W fun e w' => ∃ g, e = .returned (.tuple #[.agg (bs (nodeL sd h 0)).toArray, .slice (some ⟨g, 0, none⟩) h h]) ∧ W.heap.size ≤ g ∧ Arr w' g h 9 (ss ((besL sd h 0).map mkS)) ∧ Below W.heap.size W w') :=
    Lib.hid fun W hW => tree_any h 0 sd W hh (Nat.pow_pos (by decide)) hsd (by omega) (hK.later hW)
  have hH : Hid (∀ W, Calls Tryd.prog 49 #[.int .i64 (h : Int)] W fun e w' => e = .returned (.bool true) ∧ w' = W) := Lib.hid fun W => isHeight_yes h W hh
  have hsz : (mkS sd).size = 32 := by rw [mkS_size, hsl]
  have HSZ := Lib.hid hsz
  have hs1 : (((mkS sd).size : Int) != 32) = false := by rw [hsz]; rfl
  have HD16 : Hid ((nodeL sd h 0).length = 16) := Lib.hid (nodeL_len _ _ _)
  obtain ⟨D, HD⟩ : ∃ D, Hid (nodeL sd h 0 = D) := ⟨_, Lib.hid rfl⟩
  rw [HD.out] at HD16 HT
  have HDB : Hid ((bs D).length = 16) := Lib.hid (by rw [bs_len, HD16.out])
  have hiz : (Tryd.prog.info? 44).map (·.size) = some (bs D).length := by rw [HDB.out]; exact info_dig
  have HIZ := Lib.hid hiz
  clear hsz hiz
  have a1 := Arr.new' w 44 #[.int .u8 0, .int .u8 0, .int .u8 0, .int .u8 0, .int .u8 0, .int .u8 0, .int .u8 0, .int .u8 0, .int .u8 0, .int .u8 0, .int .u8 0, .int .u8 0, .int .u8 0, .int .u8 0, .int .u8 0, .int .u8 0] 16 (bs (List.replicate 16 0)) rfl (by simp [bs]) (by decide)
  have V0 := new_later w (.cells #[.int .u8 0, .int .u8 0, .int .u8 0, .int .u8 0, .int .u8 0, .int .u8 0, .int .u8 0, .int .u8 0, .int .u8 0, .int .u8 0, .int .u8 0, .int .u8 0, .int .u8 0, .int .u8 0, .int .u8 0, .int .u8 0] 44)
  go_enter Tryd.func31, Tryd.ntmps31
  go_upto_region 1 with fail
  generalize hW : w.alloc (.cells #[.int .u8 0, .int .u8 0, .int .u8 0, .int .u8 0, .int .u8 0, .int .u8 0, .int .u8 0, .int .u8 0, .int .u8 0, .int .u8 0, .int .u8 0, .int .u8 0, .int .u8 0, .int .u8 0, .int .u8 0, .int .u8 0] 44) = wa at a1 V0 ⊢
  clear hW
  go_wp2_with (first
    | (go_at_call 49; with_reducible refine (hH.out _).mono ?_; rintro e w1 ⟨rfl, rfl⟩)
    | (go_at_call 50; (with_reducible refine (HT.out _ V0).mono ?_); rintro e w2 ⟨g, rfl, hg, A2, hb2⟩; have V2 := later V0 hb2; have B2 := a1.later hb2; clear HT hb2)
    | (refine wpList_store_new rfl _ (.tmp 6) (.tmp 21) rfl rfl rfl info_dig HDB.out rfl (all_oneCell_toArray (bs_cell D)) ?_; intro w8 hbel8 hrow8 hsz8; have T8 : Arr w8 w2.heap.size 16 44 (bs D) := Arr.of_row hrow8 HDB.out (by decide); have V8 := later V2 hbel8; have D8 := B2.later hbel8; clear hrow8)
    | (refine wpList_load_mid rfl _ (.tmp 6) rfl w2.heap.size 0 rfl (bs D) _ T8.range Tryd.underlying44 rfl HIZ.out ?_)
    | (refine wpList_store_arr rfl _ (.tmp 4) (.tmp 23) rfl w.heap.size 0 16 44 _ (bs D) _ rfl rfl rfl D8 (by rw [HDB.out]; omega) HIZ.out (bs_cell D) ?_; intro w10 f10 o10; have V10 := V8.trans o10.bel; rw [setAll_all _ _ (by rw [HDB.out, bs_len]; rfl)] at f10))
  exact bodyPost_ret (v := .tuple #[.agg (bs D).toArray, .int .i64 0]) (results_duo rfl _ _ w.heap.size (bs D) _ _ rfl rfl f10.range Tryd.underlying44 rfl HIZ.out) rfl ⟨by rw [HD.out], V10⟩
set_option maxHeartbeats 1000000 in
set_option maxRecDepth 100000 in
theorem Public_short (h : Nat) (S : ByteArray) (w : World) (hS : S.size ≠ 32) :
    Calls Tryd.prog 31 #[.string S, .int .i64 (h : Int)] w fun e w' => e = .returned (.tuple #[.agg (bs (List.replicate 16 0)).toArray, .int .i64 1]) ∧ Below w.heap.size w w' := by
  have hs1 : ((S.size : Int) != 32) = true := by rw [bne_iff_ne]; omega
  have HZ : Hid ((bs (List.replicate 16 0)).length = 16) := Lib.hid (by simp [bs])
  have hiz : (Tryd.prog.info? 44).map (·.size) = some (bs (List.replicate 16 0)).length := by rw [HZ.out]; exact info_dig
  have HIZ := Lib.hid hiz
  clear hiz hS
  have a1 := Arr.new' w 44 #[.int .u8 0, .int .u8 0, .int .u8 0, .int .u8 0, .int .u8 0, .int .u8 0, .int .u8 0, .int .u8 0, .int .u8 0, .int .u8 0, .int .u8 0, .int .u8 0, .int .u8 0, .int .u8 0, .int .u8 0, .int .u8 0] 16 (bs (List.replicate 16 0)) rfl (by simp [bs]) (by decide)
  have V0 := new_later w (.cells #[.int .u8 0, .int .u8 0, .int .u8 0, .int .u8 0, .int .u8 0, .int .u8 0, .int .u8 0, .int .u8 0, .int .u8 0, .int .u8 0, .int .u8 0, .int .u8 0, .int .u8 0, .int .u8 0, .int .u8 0, .int .u8 0] 44)
  go_enter Tryd.func31, Tryd.ntmps31
  go_upto_region 1 with fail
  generalize hW : w.alloc (.cells #[.int .u8 0, .int .u8 0, .int .u8 0, .int .u8 0, .int .u8 0, .int .u8 0, .int .u8 0, .int .u8 0, .int .u8 0, .int .u8 0, .int .u8 0, .int .u8 0, .int .u8 0, .int .u8 0, .int .u8 0, .int .u8 0] 44) = wa at a1 V0 ⊢
  clear hW
  go_wp2_with (refine wpList_store_arr rfl _ (.tmp 4) (.tmp 16) rfl w.heap.size 0 16 44 _ (bs (List.replicate 16 0)) _ rfl rfl rfl a1 (by rw [HZ.out]; omega) HIZ.out (bs_cell _) ?_; intro w10 f10 o10; have V10 := V0.trans o10.bel; rw [setAll_all _ _ rfl] at f10)
  exact bodyPost_ret (v := .tuple #[.agg (bs (List.replicate 16 0)).toArray, .int .i64 1]) (results_duo rfl _ _ w.heap.size (bs (List.replicate 16 0)) _ _ rfl rfl f10.range Tryd.underlying44 rfl HIZ.out) rfl ⟨rfl, V10⟩

theorem joinTail_nil : ∀ r : List (List UInt8), Lib.joinTail [] r = r.flatten
  | [] => rfl
  | a :: r => by show ((([] : List UInt8) ++ a) :: _).flatten = _; rw [List.flatten_cons, List.nil_append, List.flatten_cons]; congr 1; exact joinTail_nil r
theorem join_flat : ∀ xs : List (List UInt8), Lib.join xs [] = xs.flatten
  | [] => rfl
  | a :: r => by rw [Lib.join_cons, joinTail_nil, List.flatten_cons]
theorem join_mkS (L : List (List Nat)) : (⟨(Lib.join ((L.map mkS).map (·.data.toList)) []).toArray⟩ : ByteArray) = mkS L.flatten := by
  rw [join_flat]
  unfold mkS
  apply ByteArray.ext
  apply Array.toList_inj.1
  simp [List.map_flatten, Function.comp_def]
theorem join_call (g h : Nat) (L : List (List Nat)) (hl : L.length = h) (h16 : ∀ x ∈ L, x.length = 16) (hh : h ≤ 6) (W : World) (A : Arr W g h 9 (ss (L.map mkS))) :
    Calls Tryd.prog 55 #[.slice (some ⟨g, 0, none⟩) h h, .string ⟨#[]⟩] W fun e w' => e = .returned (.string (mkS L.flatten)) ∧ Below W.heap.size W w' := by
  have hlen : (L.map mkS).length = h := by rw [List.length_map, hl]
  have h := Tryd.strings_Join g 0 h (L.map mkS) ⟨#[]⟩ W (fun j x hx => by rw [Nat.zero_add]; exact A.cell (show (ss (L.map mkS))[j]? = some (.string x) by unfold ss; rw [List.getElem?_map, hx]; rfl)) A.lt (by omega) (by omega) (by
    have e := congrArg ByteArray.size (join_mkS L)
    rw [mkS_size, flatten_len L h16, hl] at e
    have e2 : (Lib.join ((L.map mkS).map (·.data.toList)) []).length = 16 * h := by simpa [ByteArray.size] using e
    show (Lib.join ((L.map mkS).map (·.data.toList)) []).length ≤ _
    omega)
  rw [hlen] at h
  refine h.mono fun e w' ⟨he, hb⟩ => ⟨?_, hb⟩
  rw [he, ← join_mkS L]
end Go.Proofs.YtbfoajfpnfkfnaaDoor
set_option linter.unusedVariables false
set_option linter.unusedSimpArgs false
namespace Go.Proofs.YtbfoajfpnfkfnaaDoor
open Go.RowKit

/-- 'index' out of the tree. -/
theorem Sign_spent (h i : Nat) (sd : List Nat) (M : ByteArray) (w : World) (hh : h ≤ 6) (hsl : sd.length = 32) (hi : ¬ i < 2 ^ h) :
    Calls Tryd.prog 33 #[.string (mkS sd), .int .i64 (h : Int), .int .i64 (i : Int), .string M] w fun e w' => e = .returned (.tuple #[.string ⟨#[]⟩, .int .i64 26]) ∧ Below w.heap.size w w' := by
  have hH : Hid (∀ W, Calls Tryd.prog 49 #[.int .i64 (h : Int)] W fun e w' => e = .returned (.bool true) ∧ W = w') := Lib.hid fun W => (isHeight_yes h W hh).mono fun _ _ ⟨a, b⟩ => ⟨a, b.symm⟩
  have hI : Hid (∀ W, Calls Tryd.prog 51 #[.int .i64 (i : Int), .int .i64 (h : Int)] W fun e w' => e = .returned (.bool false) ∧ W = w') := Lib.hid fun W => (isIndex_no i h W hh hi).mono fun _ _ ⟨a, b⟩ => ⟨a, b.symm⟩
  have hs1 : (((mkS sd).size : Int) != 32) = false := by rw [mkS_size, hsl]; rfl
  clear hi hsl hh
  go_enter Tryd.func33, Tryd.ntmps33
  go_wp2_with (first
    | (go_at_call 49; with_reducible refine (hH.out _).mono ?_; rintro e w1 ⟨rfl, rfl⟩)
    | (go_at_call 51; with_reducible refine (hI.out _).mono ?_; rintro e w1 ⟨rfl, rfl⟩))
  go_ret2
  exact ⟨rfl, Below.refl _ _⟩

set_option maxHeartbeats 4000000 in
set_option maxRecDepth 100000 in
theorem Sign_any (h i : Nat) (sd M : List Nat) (w : World) (hh : h ≤ 6) (hi : i < 2 ^ h) (hsd : AllB sd) (hsl : sd.length = 32) (hM : AllB M) (hMl : M.length ≤ 1000) (hK : Kc w) :
    Calls Tryd.prog 33 #[.string (mkS sd), .int .i64 (h : Int), .int .i64 (i : Int), .string (mkS M)] w fun e w' => e = .returned (.tuple #[.string (mkS (sigL sd h i M)), .int .i64 0]) ∧ Below w.heap.size w w' := by
  have hi64 : i < 64 := Nat.lt_of_lt_of_le hi (Nat.le_trans (Nat.pow_le_pow_right (by decide) hh) (by decide))
  have HT : Hid (∀ W, Below w.heap.size w W → Calls Tryd.prog 50 #[.string (mkS sd), .int .i64 (h : Int), .int .i64 (i : Int)] W fun e w' => ∃ g, e = .returned (.tuple #[.agg (bs (nodeL sd h 0)).toArray, .slice (some ⟨g, 0, none⟩) h h]) ∧ W.heap.size ≤ g ∧ Arr w' g h 9 (ss ((besL sd h i).map mkS)) ∧ Below W.heap.size W w') :=
    Lib.hid fun W hW => tree_any h i sd W hh hi hsd (by omega) (hK.later hW)
  have hH : Hid (∀ W, Calls Tryd.prog 49 #[.int .i64 (h : Int)] W fun e w' => e = .returned (.bool true) ∧ W = w') := Lib.hid fun W => (isHeight_yes h W hh).mono fun _ _ ⟨a, b⟩ => ⟨a, b.symm⟩
  have hI : Hid (∀ W, Calls Tryd.prog 51 #[.int .i64 (i : Int), .int .i64 (h : Int)] W fun e w' => e = .returned (.bool true) ∧ W = w') := Lib.hid fun W => (isIndex_yes i h W hh hi).mono fun _ _ ⟨a, b⟩ => ⟨a, b.symm⟩
  have HS : Hid (∀ W, Below w.heap.size w W → Calls Tryd.prog 53 #[.string (mkS sd), .int .i64 (i : Int)] W fun e w' => e = .returned (.string (mkS (startL sd i))) ∧ Below W.heap.size W w') := Lib.hid fun W hW => starts_any sd i (by omega) hsd (by omega) W (hK.later hW)
  have HD16 : Hid ((nodeL sd h 0).length = 16) := Lib.hid (nodeL_len _ _ _)
  have HG : Hid (∀ W, Below w.heap.size w W → Calls Tryd.prog 47 #[.agg (bs (nodeL sd h 0)).toArray, .int .i64 (i : Int), .string (mkS M)] W fun e w' => e = .returned (.agg (bs (msgL (nodeL sd h 0) i M)).toArray) ∧ Below W.heap.size W w') :=
    Lib.hid fun W hW => digest_any (nodeL sd h 0) M i (by omega) (nodeL_len _ _ _) (nodeL_all _ _ _) hM (by omega) W (hK.later hW)
  have HO : Hid (∀ W, Calls Tryd.prog 48 #[.agg (bs (msgL (nodeL sd h 0) i M)).toArray] W fun e w' => e = .returned (.agg (isv (digL (msgL (nodeL sd h 0) i M))).toArray) ∧ Below W.heap.size W w') := Lib.hid fun W => digitsOf_any _ (msgL_len _ _ _) (msgL_all _ _ _) W
  have HC : Hid (∀ W, Below w.heap.size w W → Calls Tryd.prog 52 #[.int .i64 (i : Int), .string (mkS (startL sd i)), .agg (isv zero68).toArray, .agg (isv (digL (msgL (nodeL sd h 0) i M))).toArray] W fun e w' => e = .returned (.string (mkS (climbL i (startL sd i) zero68 (digL (msgL (nodeL sd h 0) i M))))) ∧ Below W.heap.size W w') :=
    Lib.hid fun W hW => climb_any i _ _ _ (by omega) (startL_len _ _) (startL_all _ _) zero68_len (digL_len _ (msgL_len _ _ _)) (fun c => by rw [show zero68.getD c 0 = 0 by unfold zero68; rw [List.getD_eq_getElem?_getD, List.getElem?_replicate]; split <;> rfl]; decide) (fun c => digL_le _ c) W (hK.later hW)
  have HN : Hid (∀ W, Calls Tryd.prog 54 #[.int .i64 (i : Int)] W (RowRes (enc (i : Int)) W)) := Lib.hid fun W => RowRes.of (Int_any (i : Int) W (by omega) (by omega))
  have HJ : Hid (∀ g W, Arr W g h 9 (ss ((besL sd h i).map mkS)) → Calls Tryd.prog 55 #[.slice (some ⟨g, 0, none⟩) h h, .string ⟨#[]⟩] W fun e w' => e = .returned (.string (mkS (besL sd h i).flatten)) ∧ Below W.heap.size W w') := Lib.hid fun g W hA => join_call g h _ (besL_len _ _ _) (besL_16 _ _ _) hh W hA
  have hs1 : (((mkS sd).size : Int) != 32) = false := by rw [mkS_size, hsl]; rfl
  have hm1 : ¬ (1048576 : Int) < ((mkS M).size : Int) := by rw [mkS_size]; omega
  have hIL : (enc (i : Int)).length ≤ 9 := (enc_len _ (by omega)).2
  have hCL : (climbL i (startL sd i) zero68 (digL (msgL (nodeL sd h 0) i M))).length = 1088 := climbL_len _ _ _ (startL_len _ _)
  have hJL : ((besL sd h i).flatten).length = 16 * h := by rw [flatten_len _ (besL_16 _ _ _), besL_len]
  have HSIG : Hid (sigL sd h i M = enc (i : Int) ++ climbL i (startL sd i) zero68 (digL (msgL (nodeL sd h 0) i M)) ++ (besL sd h i).flatten) := Lib.hid rfl
  have hz := zero_heights
  generalize (isv zero68).toArray = ZV at hz HC
  generalize climbL i (startL sd i) zero68 (digL (msgL (nodeL sd h 0) i M)) = CL at HC hCL HSIG
  generalize digL (msgL (nodeL sd h 0) i M) = DL at HO HC
  generalize msgL (nodeL sd h 0) i M = MD at HG HO
  generalize startL sd i = SL at HS HC
  generalize nodeL sd h 0 = D at HT HD16 HG
  generalize (besL sd h i).flatten = JL at HJ hJL HSIG
  generalize (besL sd h i).map mkS = BL at HT HJ
  generalize enc (i : Int) = IL at HN hIL HSIG
  have HDB : Hid ((bs D).length = 16) := Lib.hid (by rw [bs_len, HD16.out])
  have hu := Tryd.underlying44
  have hiz : (Tryd.prog.info? 44).map (·.size) = some (bs D).length := by rw [HDB.out]; exact info_dig
  have V0 := Below.refl w.heap.size w
  have ha1 : ¬ 9223372036854775807 < (mkS IL).size + (mkS CL).size := by rw [mkS_size, mkS_size]; omega
  have ha2 : ¬ 9223372036854775807 < (mkS IL).size + (mkS CL).size + (mkS JL).size := by rw [mkS_size, mkS_size, mkS_size]; omega
  have ha3 : ¬ 9223372036854775807 < (mkS IL ++ mkS CL).size + (mkS JL).size := by rw [mkS_app, mkS_size, mkS_size, List.length_append]; omega
  have HFIN : Hid ((mkS IL ++ mkS CL) ++ mkS JL = mkS (sigL sd h i M)) := Lib.hid (by rw [mkS_app, mkS_app, HSIG.out])
  clear hi hsd hsl hM hMl hIL hCL hJL HSIG
  go_enter Tryd.func33, Tryd.ntmps33
  go_upto_region 8 with (first
    | (go_at_call 49; with_reducible refine (hH.out _).mono ?_; rintro e w1 ⟨rfl, rfl⟩)
    | (go_at_call 51; with_reducible refine (hI.out _).mono ?_; rintro e w1 ⟨rfl, rfl⟩)
    | (go_at_call 50; (with_reducible refine (HT.out _ V0).mono ?_); rintro e w2 ⟨g, rfl, hg, A2, hb2⟩; have V2 := later V0 hb2; clear HT hb2)
    | (refine wpList_store_new rfl _ (.tmp 10) (.tmp 36) rfl rfl rfl info_dig HDB.out rfl (all_oneCell_toArray (bs_cell D)) ?_; intro w8 hbel8 hrow8 hsz8; have T8 : Arr w8 w2.heap.size 16 44 (bs D) := Arr.of_row hrow8 HDB.out (by decide); have V8 := later V2 hbel8; have A8 := A2.later hbel8; clear hrow8))
  have T8d : Arr w8.drew w2.heap.size 16 44 (bs D) := T8
  have V8d : Below w.heap.size w w8.drew := below_drew V8
  have A8d : Arr w8.drew g h 9 (ss BL) := A8
  go_region_held3 (fun X => X.rangeAt w2.heap.size 0 (bs D)) (first | exact T8d.range | exact T9.range | exact T10.range | exact T11.range | exact T12.range)
    (first
    | (go_at_call 53; (with_reducible refine (HS.out _ V8d).mono ?_); rintro e w9 ⟨rfl, hb9⟩; have V9 := later V8d hb9; have T9 := T8d.later hb9; have A9 := A8d.later hb9)
    | (go_at_call 47; (with_reducible refine (HG.out _ V9).mono ?_); rintro e w10 ⟨rfl, hb10⟩; have V10 := later V9 hb10; have T10 := T9.later hb10; have A10 := A9.later hb10)
    | (go_at_call 48; (with_reducible refine (HO.out _).mono ?_); rintro e w11 ⟨rfl, hb11⟩; have V11 := later V10 hb11; have T11 := T10.later hb11; have A11 := A10.later hb11)
    | (go_at_call 52; (with_reducible refine (HC.out _ V11).mono ?_); rintro e w12 ⟨rfl, hb12⟩; have V12 := later V11 hb12; have T12 := T11.later hb12; have A12 := A11.later hb12))
  clear T8d V8d A8d T8 V8 A8 V9 T9 A9 V10 T10 A10 V11 T11 A11 HS HG HO HC hb9 hb10 hb11 hb12 T12 hbel8
  go_upto_region 9 with fail
  have V12d : Below w.heap.size w w12.drew := below_drew V12
  have A12d : Arr w12.drew g h 9 (ss BL) := A12
  have HCV : Hid (∀ A c W, Rd W W.heap.size A (bs IL) → (convert 22 9 (.slice A IL.length c)).run Tryd.prog W = .ok (.string (mkS IL)) W) := Lib.hid fun A c W hr => run_conv _ _ _ _ _ _ rfl hr
  go_region_with (first
    | (go_at_call 54; (with_reducible refine (HN.out _).mono ?_); rintro e w13 ⟨B, c, rfl, hr13, hc1, hc2, hb13⟩; have V13 := later V12d hb13; have A13 := A12d.later hb13; have hcv1 := HCV.out B c w13 hr13)
    | (go_at_call 55; (with_reducible refine (HJ.out g _ A13).mono ?_); rintro e w14 ⟨rfl, hb14⟩; have V14 := later V13 hb14; have hr14 := hr13.later hb14; have hcv2 := HCV.out B c w14 hr14))
  all_goals
    go_wp2_with fail
    go_ret2
    exact ⟨by rw [← HFIN.out]; rfl, V14⟩
end Go.Proofs.YtbfoajfpnfkfnaaDoor
