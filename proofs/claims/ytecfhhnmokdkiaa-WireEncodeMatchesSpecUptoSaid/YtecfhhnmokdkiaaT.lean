import Derived.Test.YtecfhhnmokdkiaaS
set_option linter.unusedVariables false
namespace Go.Proofs.Ytecfhhnmokdkiaa
open Go.RowKit

theorem run_part {P : Program} (w : World) (e : TypeId) (k : IntKind) (he : P.underlying e = some (.int k)) (cs : Array Value) (o : Nat) (v : Value) (hv : cs[o]? = some v) : (Go.part e cs o).run P w = .ok v w := by
  have hagg : (isAgg e).run P w = .ok false w := by
    unfold isAgg
    rw [Sem.run_bind, run_underlying he w]
    rfl
  unfold Go.part
  rw [Sem.run_bind, hagg]
  simp [hv]

theorem run_forIn_eq {P : Program} (w : World) (f : Nat → (Option Bool × Unit) → Sem (ForInStep (Option Bool × Unit))) (q : Nat → Bool)
    : ∀ (l : List Nat) (hf : ∀ i, i ∈ l → (f i (none, ())).run P w = .ok (if q i then .yield (none, ()) else .done (some false, ())) w), (forIn l ((none : Option Bool), ()) f).run P w = .ok (if l.all q then (none, ()) else (some false, ())) w
  | [], _ => by simp
  | i :: l, hf => by
    rw [List.forIn_cons, Sem.run_bind, hf i (by simp)]
    by_cases h : q i = true
    · simp only [h, if_true, Result.andThen_ok]
      rw [run_forIn_eq w f q l (fun j hj => hf j (by simp [hj]))]
      simp [h]
    · simp [h]

theorem run_eqArr {P : Program} (w : World) (d n : Nat) (t e : TypeId) (k : IntKind) (ht : P.underlying t = some (.array n e)) (he : P.underlying e = some (.int k)) (hi : (P.info? e).map (·.size) = some 1) (xs ys : List Int) (hx : xs.length = n) (hy : ys.length = n) :
    (Op.equalIn (d + 2) t (.agg (xs.map (Value.int k)).toArray) (.agg (ys.map (Value.int k)).toArray)).run P w = .ok (decide (xs = ys)) w := by
  obtain ⟨i0, hi0, hi1⟩ := Option.map_eq_some_iff.1 hi
  unfold Op.equalIn
  simp only [Sem.run_bind, run_underlying ht, Result.andThen_ok, sizeOf, typeInfo, hi0, hi1, run_program, Sem.run_pure]
  rw [Std.Legacy.Range.forIn_eq_forIn_range']
  rw [run_forIn_eq w _ (fun i => decide (xs[i]? = ys[i]?))]
  · have hq : (List.range' ([:n] : Std.Legacy.Range).start ([:n] : Std.Legacy.Range).size ([:n] : Std.Legacy.Range).step).all (fun i => decide (xs[i]? = ys[i]?)) = decide (xs = ys) := by
      rw [Bool.eq_iff_iff, List.all_eq_true, decide_eq_true_iff]
      constructor
      · intro h
        apply List.ext_getElem?
        intro i
        by_cases hi : i < n
        · have := h i (by simp [Std.Legacy.Range.size]; omega)
          simpa using this
        · rw [List.getElem?_eq_none (by omega), List.getElem?_eq_none (by omega)]
      · rintro rfl i _; simp
    rw [hq]
    by_cases h : xs = ys <;> simp [h]
  · intro i hi
    have hin : i < n := by simp [Std.Legacy.Range.size] at hi; omega
    have hxi : xs[i]? = some xs[i] := List.getElem?_eq_getElem (by omega)
    have hyi : ys[i]? = some ys[i] := List.getElem?_eq_getElem (by omega)
    rw [Sem.run_bind, run_part w e k he _ _ (.int k xs[i]) (by simp [hxi])]
    simp only [Result.andThen_ok]
    rw [Sem.run_bind, run_part w e k he _ _ (.int k ys[i]) (by simp [hyi])]
    simp only [Result.andThen_ok]
    rw [Sem.run_bind, run_equalIn_int w d e k k _ _ he]
    simp only [Result.andThen_ok, hxi, hyi, Option.some.injEq]
    by_cases h : xs[i] = ys[i] <;> simp [h]

/-- In a region that draws its order and only reads: a whole array is read. -/
theorem wpQuiet_load {P : Program} {ops : Array Oper} {C : World → Prop} {Q : Act → Prop} {a : Act} {o : Oper} {rest : List Oper} (hgd : o.guard = none) (ty : TypeId) (x : Operand) (ho : o.op = .load ty x)
    (b k : Nat) (hx : a.eval x = .pointer (some ⟨b, k, none⟩)) (cs : List Value) (d : TypeDesc) (hc : ∀ w, C w → w.rangeAt b k cs)
    (hu : P.underlying ty = some d) (hd : d.isRow = true) (hi : (P.info? ty).map (·.size) = some cs.length)
    (h : wpQuiet P ops C Q rest (a.put o.dst (.agg cs.toArray))) : wpQuiet P ops C Q (o :: rest) a := by
  refine wpQuiet_step fun K hK => ?_
  have hw : Region.wanted o (yielded ops a.tmps) = true := by simp [Region.wanted, hgd]
  rw [if_pos hw]
  refine ⟨_, fun w hCw => ?_, hK _ h⟩
  unfold Oper.quietAt execOp
  simp only [ho, hx, Instr.loadAt, Instr.sureAddr, Sem.run_bind, Sem.run_pure, Result.andThen_ok, run_loadVar_mid w b k ty cs d (hc w hCw) hu hd hi]
  exact ⟨rfl, rfl⟩
theorem run_eqDig (w : World) (d d' : List Nat) (h : d.length = 16) (h' : d'.length = 16) : (Op.equalIn 10000 51 (.agg (bs d).toArray) (.agg (bs d').toArray)).run Try.prog w = .ok (decide (d = d')) w := by
  have e : ∀ l : List Nat, bs l = (l.map Int.ofNat).map (Value.int .u8) := fun l => by simp [bs, U8, List.map_map, Function.comp_def]
  have h2 := run_eqArr (P := Try.prog) w 9998 16 51 5 .u8 Try.underlying51 Try.underlying5 (by have := info_u8; simp only [Option.map_eq_some_iff] at this ⊢; obtain ⟨i, hi, hx⟩ := this; exact ⟨i, hi, by simp at hx; exact hx.2.1⟩) (d.map Int.ofNat) (d'.map Int.ofNat) (by simpa using h) (by simpa using h')
  rw [e, e, h2]
  congr 1
  have hinj : d.map Int.ofNat = d'.map Int.ofNat ↔ d = d' := List.map_inj_right (fun a b hab => Int.ofNat.inj hab)
  simp only [hinj]

set_option maxHeartbeats 400000 in
set_option maxRecDepth 100000 in
theorem SameDigests_any (n m B c d : Nat) (A A' : Option Addr) (xs ys : List (List Nat)) (w : World) (hn : n = xs.length) (hm : m = ys.length) (hr : Rd w B A (ds xs)) (hr' : Rd w B A' (ds ys)) (hn1 : n ≤ 9223372036854775807) (h16 : ∀ d ∈ xs, d.length = 16) (h16' : ∀ d ∈ ys, d.length = 16) :
    Calls Try.prog 30 #[.slice A n c, .slice A' m d] w (BoolRes w (decide (xs = ys))) := by
  by_cases hnm : n = m
  · subst hnm
    have hb : ((n : Int) != n) = false := by simp
    have HN := Lib.hid hn
    have HM := Lib.hid hm
    clear hn hm
    go_enter Try.func30, Try.ntmps30
    go_wp2
    go_loopw [5] (fun i wr => ∃ k q : Nat, k ≤ n ∧ i = .int .i64 (k : Int) ∧ wr = w.drewN q ∧ xs.take k = ys.take k) (fun i _ => n - (intOf i).toNat)
    case atStart => exact ⟨0, 0, Nat.zero_le _, rfl, rfl, by simp⟩
    case round =>
      obtain ⟨k, q, hk, rfl, rfl, ht⟩ := hrel
      by_cases hlt : k < n
      · have hx : k < xs.length := by have := HN.out; omega
        have hy : k < ys.length := by have := HM.out; omega
        obtain ⟨b, o, rfl, _, hc⟩ := hr.at_ (by intro h; have := congrArg List.length h; rw [ds, bs_len, flat_len xs h16] at this; simp at this; omega)
        obtain ⟨b', o', rfl, _, hc'⟩ := hr'.at_ (by intro h; have := congrArg List.length h; rw [ds, bs_len, flat_len ys h16'] at this; simp at this; omega)
        have hlx : xs[k].length = 16 := h16 _ (List.getElem_mem hx)
        have hly : ys[k].length = 16 := h16' _ (List.getElem_mem hy)
        have hrx : w.rangeAt b (o + k * 16) (bs xs[k]) := ds_range xs h16 hc k hx
        have hry : w.rangeAt b' (o' + k * 16) (bs ys[k]) := ds_range ys h16' hc' k hy
        have heq : ∀ W, (Op.equalIn 10000 51 (.agg (bs xs[k]).toArray) (.agg (bs ys[k]).toArray)).run Try.prog W = .ok (decide (xs[k] = ys[k])) W := fun W => run_eqDig _ _ _ hlx hly
        have hix : (Try.prog.info? 51).map (·.size) = some (bs xs[k]).length := by rw [bs_len, hlx]; exact info_dig
        have hiy : (Try.prog.info? 51).map (·.size) = some (bs ys[k]).length := by rw [bs_len, hly]; exact info_dig
        have hu57 := Try.underlying51
        have hne := Lib.hid (take_ne hx hy)
        have hnx := Lib.hid (take_next hx hy ht)
        clear hc hc' ht hr hr' h16 h16'
        have hi : (k : Int) < (n : Int) := by omega
        generalize xs[k] = x at hrx hne hnx heq hlx hix
        generalize ys[k] = y at hry hne hnx heq hly hiy
        by_cases hxy : x = y
        · subst hxy
          have hbb : decide (x = x) = true := by simp
          go_wp2_with fail
          refine wp_region_quiet_lit (by kernel_rfl) (by kernel_rfl) ?_
          repeat (first | (refine wpQuiet_load rfl _ (.tmp 19) rfl b (o + k * 16) rfl _ _ (by rintro W ⟨q', rfl⟩; exact hrx) hu57 rfl hix ?_; simp only [Act.put, List.setIfInBounds_toArray, List.set_cons_zero, List.set_cons_succ]) | (refine wpQuiet_load rfl _ (.tmp 23) rfl b' (o' + k * 16) rfl _ _ (by rintro W ⟨q', rfl⟩; exact hry) hu57 rfl hiy ?_; simp only [Act.put, List.setIfInBounds_toArray, List.set_cons_zero, List.set_cons_succ]) | go_big_quiet_step (fail) | quiet_step (fail))
          refine wpQuiet_nil ?_
          intro _ hw'
          obtain ⟨nq, hw''⟩ := hw'
          subst hw''
          go_wp2_with fail
          go_roundw
          case rel => exact ⟨k + 1, _, by omega, by go_num, rfl, by simpa using hnx.out⟩
          case measure => simp [intOf]; omega
        · have hbb : decide (x = y) = false := by simp [hxy]
          go_wp2_with fail
          refine wp_region_quiet_lit (by kernel_rfl) (by kernel_rfl) ?_
          repeat (first | (refine wpQuiet_load rfl _ (.tmp 19) rfl b (o + k * 16) rfl _ _ (by rintro W ⟨q', rfl⟩; exact hrx) hu57 rfl hix ?_; simp only [Act.put, List.setIfInBounds_toArray, List.set_cons_zero, List.set_cons_succ]) | (refine wpQuiet_load rfl _ (.tmp 23) rfl b' (o' + k * 16) rfl _ _ (by rintro W ⟨q', rfl⟩; exact hry) hu57 rfl hiy ?_; simp only [Act.put, List.setIfInBounds_toArray, List.set_cons_zero, List.set_cons_succ]) | go_big_quiet_step (fail) | quiet_step (fail))
          refine wpQuiet_nil ?_
          intro _ hw'
          obtain ⟨nq, hw''⟩ := hw'
          subst hw''
          go_wp2_with fail
          go_ret
          exact ⟨by rw [decide_eq_false (hne.out hxy)]; rfl, _, World.drewN_drewN _ _ _⟩
      · have hkn : k = n := by omega
        subst hkn
        have heq : xs = ys := by
          rw [List.take_of_length_le (by have := HN.out; omega), List.take_of_length_le (by have := HM.out; omega)] at ht; exact ht
        have HE := Lib.hid heq
        clear heq ht
        go_wp2_with fail
        go_ret
        exact BoolRes.mk (decide_eq_true HE.out).symm
  · have hb : ((n : Int) != m) = true := by simp; omega
    have hf : decide (xs = ys) = false := by simp; rintro rfl; omega
    rw [hf]
    clear hf hn hm
    go_enter Try.func30, Try.ntmps30
    go_wp2
    go_ret
    exact BoolRes.mk (k := 0) rfl
end Go.Proofs.Ytecfhhnmokdkiaa
