import Derived.Test.YtecfhhnmokdkiaaRefCnt
import Derived.Test.YtecfhhnmokdkiaaM
import Derived.Test.YtecfhhnmokdkiaaGen
set_option linter.unusedVariables false
namespace Go.Proofs.Ytecfhhnmokdkiaa
open Go.RowKit

theorem fold_zip : ∀ (us pre z : List Value), us.length = z.length → List.foldl (fun (cs : Array Value) (x : Value × Nat) => cs.setIfInBounds x.snd x.fst) (pre ++ z).toArray (us.zipIdx pre.length) = (pre ++ us).toArray
  | [], pre, z, h => by
    have : z = [] := List.eq_nil_of_length_eq_zero h.symm
    subst this; rfl
  | u :: us, pre, z, h => by
    cases z with
    | nil => simp at h
    | cons y z =>
      have ih := fold_zip us (pre ++ [u]) z (by simpa using h)
      rw [List.zipIdx_cons, List.foldl_cons]
      have e : (pre ++ y :: z).toArray.setIfInBounds pre.length u = (pre ++ [u] ++ z).toArray := by
        rw [List.setIfInBounds_toArray, List.set_append_right _ _ (Nat.le_refl _)]
        simp
      simp only [e]
      rw [List.length_append, List.length_singleton] at ih
      rw [ih]; simp
theorem fold_agg (us : List Value) (z : List Value) (h : us.length = z.length) : List.foldl (fun (cs : Array Value) (x : Value × Nat) => cs.setIfInBounds x.snd x.fst) z.toArray us.zipIdx = us.toArray := fold_zip us [] z h

/-- 'append(out, x)', x of several cells in a block of its own, which was laid just before. -/
theorem wpList_putN {P : Program} {w : World} {base : Nat} {e t : TypeId} {z : Value} {bytes size : Nat} {v : Value} {n : Nat} {xs us : List Value} {cs : Array Value} {ops : Array Oper} {rest : List Oper} {o : Oper} {a : Act} {Q : Exit → Act → World → Prop} {c : Nat}
    (hcs : cs = us.toArray) (hown : w.ownsRow base e size v n xs) (ht : P.underlying t = some (.slice e)) (hi : (P.info? e).map (fun i => (i.zero, i.size, i.bytes)) = some (some z, size, bytes)) (hzs : z.cells.size = size) (hsz : 0 < size) (hul : us.length = size)
    (hu : ∀ u ∈ us, u.oneCell' = true) (hbase : base ≤ w.heap.size) (h63 : n + 1 ≤ maxLen) (hbytes : (n + 1) * bytes ≤ 140737488355328)
    (hgd : o.guard = none) (s x : Operand) (ho : o.op = .call { callee := .builtin .append, args := #[s, x], argTypes := #[t, t] })
    (hs : a.eval s = v) (hx : a.eval x = .slice (some ⟨w.heap.size, 0, none⟩) 1 c)
    (h : ∀ v' w', w'.ownsRow base e size v' (n + 1) (xs ++ us) → Below base w w' → wpList P ops Q rest (a.put o.dst v') w') :
    wpList P ops Q (o :: rest) a (w.alloc (.cells cs e)) := by
  subst hcs
  obtain ⟨i0, hi0, hz0, hz1, hz2⟩ := info_parts hi
  refine wpList_append_own _ hgd s x t ho base e i0 z size bytes ht hi0 hz0 hz1 hz2 hzs hsz v n xs hs (hown.alloc _) ⟨w.heap.size, 0, none⟩ 1 c us hx (by omega) ?_ hu h63 hbytes (by simp; omega) ?_
  · intro j y hj
    have ha : (⟨w.heap.size, 0, none⟩ : Addr).add j = ⟨w.heap.size, 0 + j, none⟩ := by unfold Addr.add; split <;> simp_all
    rw [ha, cell_of_row (w.alloc (.cells us.toArray e)) w.heap.size (0 + j) us.toArray e (0, 0) (heap_alloc_new w _)]
    simpa using hj
  · intro v' w' ho' hg _
    exact h v' w' ho' (((Below.refl base w).alloc hbase _).grown hg (by simp; omega) (fun k hk => (hown.lt k hk).1))
/-- A variable of several cells, just laid. -/
theorem arr_new (w : World) (e : TypeId) (cs : Array Value) (n : Nat) (hn : cs.size = n) (hm : n ≤ maxLen) : (w.alloc (.cells cs e)).ownsRow w.heap.size e 1 (.slice (some ⟨w.heap.size, 0, none⟩) n n) n cs.toList :=
  ⟨by simp [hn], .inr ⟨w.heap.size, n, cs, rfl, Nat.le_refl _, heap_alloc_new w _, Nat.le_refl _, hm, by omega, by rw [List.take_of_length_le (by simp; omega)]⟩⟩
theorem arr_range {w : World} {g n : Nat} {e : TypeId} {xs : List Value} (h : w.ownsRow g e 1 (.slice (some ⟨g, 0, none⟩) n n) n xs) : w.rangeAt g 0 xs := by
  intro j v hv
  have hj : j < n := by have := (List.getElem?_eq_some_iff.1 hv).1; have := h.1; omega
  rw [Nat.zero_add, h.cellAt j (by omega)]
  exact hv

set_option maxHeartbeats 1000000 in
set_option maxRecDepth 100000 in
theorem refGetDigests_any (m cap : Nat) (A : Option Addr) (zs : List Nat) (w : World) (hm : m = zs.length) (hr : Rd w w.heap.size A (bs zs)) (hb : ∀ d ∈ zs, d < 256) (hcap : m ≤ cap) (hcap2 : cap ≤ maxLen) (hm2 : m ≤ 100000) :
    Calls Try.prog 29 #[.slice A m cap] w (DRes w (getL 16 digD zs).1 (getL 16 digD zs).2.1 (getL 16 digD zs).2.2) := by
  obtain ⟨n, u, er, hd⟩ : ∃ n u er, getLen 16 zs = (n, u, er) := ⟨_, _, _, rfl⟩
  rw [getL_eq hd]
  have HC := Lib.hid (refCount16_call m cap A zs w hd hm hr hb hcap hcap2 hm2)
  have her := getLen_er hd
  by_cases h1 : er = 0
  · subst h1
    obtain ⟨h2, h3, h4, h5⟩ := getLen_ok (by omega) hd
    obtain ⟨N, rfl⟩ := Int.eq_ofNat_of_zero_le h2
    simp only [Int.toNat_natCast] at h4 ⊢
    rw [if_neg (by simp)]
    have h4m : u + N * 16 ≤ m := by omega
    have hNe : zs ≠ [] := by intro h; subst h; simp at h4; omega
    obtain ⟨b, o, rfl, hblt, hc⟩ := hr.at_ (by simpa [bs] using hNe)
    have HM := Lib.hid hm
    have HCE : Hid (∀ W, Below w.heap.size w W → ∀ j, (hj : j < zs.length) → W.cell? ⟨b, o + j, none⟩ = some (.int .u8 (zs[j] : Int))) := fun W hW j hj => (hW.cell hblt).trans (by
      have := hc j _ (bs_get zs j hj)
      rw [List.getElem?_eq_getElem hj, Option.getD_some] at this
      exact this)
    unfold maxLen at hcap2
    clear h4 h5 hd her hm hb hr h2 hc hNe
    go_enter Try.func29, Try.ntmps29
    go_wp2_with (go_at_call 35; refine HC.out.mono ?_; rintro e w1 ⟨rfl, hb1⟩)
    go_loopw [6, 8, 9] (fun a v i wr => ∃ (xs : List (List Nat)) (at_ : Nat), i = .int .i64 (xs.length : Int) ∧ a = .int .i64 (at_ : Int) ∧ wr.ownsRow w.heap.size 51 16 v xs.length (ds xs) ∧ Below w.heap.size w wr ∧ Sofar digD N u zs xs at_ ∧ at_ ≤ u + 16 * xs.length)
      (fun _ _ i _ => N - (intOf i).toNat)
    case atStart => exact ⟨[], u, rfl, rfl, World.ownsRow_nil _ _ _ _, hb1, Sofar.start (by have := HM.out; omega), Nat.le_refl _⟩
    case round =>
      obtain ⟨xs, at_, rfl, rfl, hown, hbel, hs, hat1⟩ := hrel
      clear hb1
      obtain ⟨wo, rfl⟩ : ∃ wo : World, wo = wr := ⟨_, rfl⟩
      have hxl := hs.len
      have hbw := hbel.size
      obtain ⟨va, vc, rfl, _, _, _⟩ := own_shape hown
      by_cases hlt : xs.length < N
      · have hat16 : at_ + 16 ≤ m := by omega
        have hg : digD (zs.drop at_) = ((zs.drop at_).take 16, 16, 0) := rfl
        have hn := hs.next hlt hg (by have := HM.out; omega)
        have hd16 : ((zs.drop at_).take 16).length = 16 := by have := HM.out; rw [List.length_take, List.length_drop]; omega
        have HCD : Hid (∀ W, Below w.heap.size w W → ∀ j, (hj : j < ((zs.drop at_).take 16).length) → W.cell? ⟨b, o + (at_ + j), none⟩ = some (.int .u8 ((((zs.drop at_).take 16)[j] : Nat) : Int))) := fun W hW j hj => by
          rw [hd16] at hj
          have h := HCE.out W hW (at_ + j) (by have := HM.out; omega)
          rw [h, List.getElem_take, List.getElem_drop]
        generalize (zs.drop at_).take 16 = D at hn hd16 HCD
        have HN := Lib.hid hn
        have HD := Lib.hid hd16
        have HO := Lib.hid hown
        have hlt' : (xs.length : Int) < (N : Int) := by omega
        clear hs hg hn hown hd16
        go_wp2_with fail
        go_loopw [11] (fun i W => ∃ j : Nat, j ≤ 16 ∧ i = .int .i64 (j : Int) ∧ W.ownsRow wo.heap.size 51 1 (.slice (some ⟨wo.heap.size, 0, none⟩) 16 16) 16 ((D.take j).map U8 ++ List.replicate (16 - j) (.int .u8 0)) ∧ Below wo.heap.size wo W) (fun i _ => 16 - (intOf i).toNat)
        case atStart => exact ⟨0, by omega, rfl, arr_new wo _ _ 16 rfl (by simp [maxLen]), new_later wo _⟩
        case round =>
          obtain ⟨j, hj, rfl, hown3, hbel3⟩ := hrel
          have hbw3 := hbel3.size
          by_cases hj16 : j < 16
          · have hcell := HCD.out _ (hbel.trans (hbel3.mono hbw)) j (by rw [HD.out]; omega)
            have hset := set_next (D.take j) 16 U8 (.int .u8 0) (D[j]'(by rw [HD.out]; omega)) (by rw [List.length_take, HD.out]; omega)
            have hlj : (D.take j).length = j := by rw [List.length_take, HD.out]; omega
            have ht : D.take (j + 1) = D.take j ++ [D[j]'(by rw [HD.out]; omega)] := List.take_succ_eq_append_getElem (by rw [HD.out]; omega)
            rw [← ht] at hset
            have hl1 : (D.take (j + 1)).length = j + 1 := by rw [List.length_take, HD.out]; omega
            rw [hlj, hl1] at hset
            generalize D[j]'(by rw [HD.out]; omega) = X at hcell hset ht
            have hcA := hown3.cellAt j (by omega)
            rw [List.getElem?_append_right (by rw [List.length_map, hlj]; exact Nat.le_refl _), List.length_map, hlj, Nat.sub_self, List.getElem?_replicate, if_pos (by omega)] at hcA
            have hfr := hown3.frozenAt j
            have HSET := Lib.hid hset
            have HO3 := Lib.hid hown3
            have hji : (j : Int) < 16 := by omega
            clear hset hlj ht hl1 hown3
            go_wp2_with fail
            go_roundw
            case rel => exact ⟨j + 1, by omega, by go_num, by rw [← HSET.out]; exact (HO3.out.stored j _).1, hbel3.setCell (Nat.le_refl _) _⟩
            case measure => simp [intOf]; omega
          · have hj16 : j = 16 := by omega
            subst hj16
            rw [List.take_of_length_le (by rw [HD.out]; exact Nat.le_refl _)] at hown3
            have hown4 : wr.ownsRow wo.heap.size 51 1 (.slice (some ⟨wo.heap.size, 0, none⟩) 16 16) 16 (bs D) := by simpa [bs] using hown3
            have HRG := Lib.hid (arr_range hown4)
            have HV := own_below' HO.out hbel3
            have HL : Hid ((bs D).length = 16) := by show (bs D).length = 16; rw [bs_len, HD.out]
            have hbel4 := hbel.trans (hbel3.mono hbw)
            have hL16 : (bs D).length = 16 := HL.out
            clear hown3 hown4
            go_wp2_with (first
              | (with_reducible refine wpList_load_mid rfl _ (.tmp 10) rfl wo.heap.size _ rfl (bs D) _ HRG.out Try.underlying51 rfl (by rw [HL.out]; exact info_dig) ?_)
              | (at_builtin; refine wpList_putN (us := bs D) (fold_agg (bs D) _ HL.out) HV Try.underlying24 info_dig3 rfl (by decide) HL.out (bs_cell D) hbel4.size (by simp only [maxLen]; omega) (by omega) rfl _ _ rfl rfl rfl ?_; intro v5 w5 hown5 hbel5))
            go_roundw
            case rel => exact ⟨xs ++ [D], at_ + 16, by simp, by simp, by rw [ds_snoc]; simpa using hown5, hbel4.trans hbel5, HN.out, by simp; omega⟩
            case measure => simp [intOf]; omega
      · have hxN : xs.length = N := by omega
        have hend := hs.done hxN
        have hlo := hs.lo
        subst hxN
        have HE := Lib.hid hend
        have HO := Lib.hid hown
        clear hend hs hown
        go_wp2_with fail
        go_ret3
        rw [HE.out, comb_start xs u at_ hlo]
        exact ⟨_, rfl, HO.out, hbel⟩
  · rw [if_pos h1]
    have h5 : ((er : Int) != 0) = true := by simp [h1]
    clear hd hb hm
    go_enter Try.func29, Try.ntmps29
    go_wp2_with (go_at_call 35; refine HC.out.mono ?_; rintro e w1 ⟨rfl, hb1⟩)
    go_ret3
    exact ⟨_, rfl, World.ownsRow_nil _ _ _ _, hb1⟩
end Go.Proofs.Ytecfhhnmokdkiaa
