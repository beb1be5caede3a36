/-
  A machine on plain data, fourteen: a region does what it does in its own order.
-/
import Derived.Test.YtbmjdelpgkilcaaE5
set_option linter.unusedVariables false
section
set_option linter.unusedVariables false
set_option linter.unusedSimpArgs false
namespace Go.Eng
open Go.RowKit
def Vd (n : Nat) (Wr S : Nat → Prop) (m : Nat) : Prop := m ≤ n ∧ (∀ i, i < m → Wr i → S i) ∧ (∀ i, m ≤ i → i < n → S i → ¬ Wr i)
section
variable {n j m : Nat} {Wr S : Nat → Prop}
theorem vd_at (hj : j < n) (h1 : ∀ i, i < j → Wr i → S i) (h2 : ∀ i, j < i → i < n → S i → ¬ Wr i) (h3 : ¬ S j) : Vd n Wr S j := ⟨Nat.le_of_lt hj, h1, fun i hi hn hS => by
  rcases Nat.lt_or_eq_of_le hi with h | h
  · exact h2 i h hn hS
  · subst h; exact absurd hS h3⟩
theorem vd_off (hw : ¬ Wr j) (h : Vd n Wr (fun k => S k ∨ k = j) m) : Vd n Wr S m := ⟨h.1, fun i hi hw' => (h.2.1 i hi hw').resolve_right (fun e => hw (e ▸ hw')), fun i h1 h2 h3 => h.2.2 i h1 h2 (.inl h3)⟩
theorem vd_on (hj : j < n) (hS : ¬ S j) (hc : ∀ i, j < i → i < n → Wr i → S i → S j) (hw : Wr j) (h : Vd n Wr (fun k => S k ∨ k = j) m) : j < m ∧ ∀ i, j < i → i < m → ¬ Wr i := by
  have h1 : j < m := Nat.lt_of_not_le fun hle => h.2.2 j hle hj (.inr rfl) hw
  refine ⟨h1, fun i h2 h3 hw' => ?_⟩
  rcases h.2.1 i h3 hw' with h4 | h4
  · exact hS (hc i h2 (Nat.lt_of_lt_of_le h3 h.1) hw' h4)
  · omega
theorem vd_new (hj : j < n) (h1 : ∀ i, i < j → Wr i → S i) (hS : ¬ S j) (hc : ∀ i, j < i → i < n → Wr i → S i → S j) (hw : Wr j) : Vd n Wr (fun k => S k ∨ k = j) (j + 1) := ⟨hj, fun i hi hw' => by
  rcases Nat.lt_or_eq_of_le (Nat.le_of_lt_succ hi) with h | h
  · exact .inl (h1 i h hw')
  · exact .inr h, fun i h2 h3 h4 hw' => by
  rcases h4 with h4 | h4
  · exact hS (hc i h2 h3 hw' h4)
  · omega⟩
theorem vd_keep (hw : ¬ Wr j) (h : Vd n Wr S m) : Vd n Wr (fun k => S k ∨ k = j) m := ⟨h.1, fun i hi hw' => .inl (h.2.1 i hi hw'), fun i h1 h2 h3 hw' => by
  rcases h3 with h3 | h3
  · exact h.2.2 i h1 h2 h3 hw'
  · subst h3; exact hw hw'⟩
end
theorem conf_w {x y : Lg} {b : Nat} (h1 : x.W.testBit b = true) (h2 : y.R.testBit b = true ∨ y.W.testBit b = true) : conf x y = true := by
  have : x.W &&& (y.R ||| y.W) ≠ 0 := and_ne h1 (by rw [Nat.testBit_or, Bool.or_eq_true]; exact h2)
  simp [conf, this]
theorem conf_r {x y : Lg} {b : Nat} (h1 : x.R.testBit b = true) (h2 : y.W.testBit b = true) : conf x y = true := by
  have : x.R &&& y.W ≠ 0 := and_ne h1 h2
  simp [conf, this]
theorem conf_d {x y : Lg} {d : Nat} (h1 : x.dst = some d) (h2 : d ∈ y.look ∨ y.dst = some d) : conf x y = true := by
  rcases h2 with h2 | h2 <;> simp [conf, h1, h2]
theorem conf_l {x y : Lg} {d : Nat} (h1 : d ∈ x.look) (h2 : y.dst = some d) : conf x y = true := by simp [conf, h1, h2]
theorem putT_len (tm : List TV) (d : Option Tmp) (t : TV) : (putT tm d t).length = tm.length := by cases d <;> simp [putT]
theorem Act.put_get {a : Act} {d : Option Tmp} {v : Value} {t : Nat} (h : d ≠ some t) : (a.put d v).tmps.getD t undef = a.tmps.getD t undef := by
  cases d with
  | none => rfl
  | some d =>
    have : d ≠ t := fun e => h (by rw [e])
    simp [Act.put, Array.getElem?_setIfInBounds_ne this]
theorem Act.put_self {a : Act} {v : Value} {t : Nat} (h : t < a.tmps.size) : (a.put (some t) v).tmps.getD t undef = v := by simp [Act.put, h]
theorem Act.put_size {a : Act} {d : Option Tmp} {v : Value} : (a.put d v).tmps.size = a.tmps.size := by cases d <;> simp [Act.put]
theorem Act.put_defs {a : Act} {d : Option Tmp} {v : Value} : (a.put d v).defers = a.defers := by cases d <;> rfl
structure SR (M : Prm) (G : Gh) (Z : Zn) (w : World) (a : Act) (tm : List TV) (hp : List Ob) : Prop where
  inv : Inv M.GL G Z w (HPl hp)
  siz : a.tmps.size = tm.length
  tmp : ∀ t x, tm[t]? = some x → Rep G Z w x (a.tmps.getD t undef)
section
variable {P : Program} {M : Prm} {env : EnvT} {ops : Array Oper}
theorem step_op {tm : List TV} {hp : List Ob} {o : Oper} {r : TV × List Ob × Nat × Nat} (h : stepT P M env ops tm hp o = some r) : (wantT ops tm o = some true ∧ absOp P M env tm hp o = some r ∧ (r.2.2.2 ||| newM hp.length r.2.1.length) &&& M.ban = 0) ∨ (wantT ops tm o = some false ∧ r = (.lf undef, hp, 0, 0)) := by
  unfold stepT at h
  split at h
  · rename_i hw
    split at h
    · rename_i ho
      split at h
      · rename_i hb
        cases h
        exact .inl ⟨hw, ho, hb⟩
      · cases h
    · cases h
  · rename_i hw
    cases h
    exact .inr ⟨hw, rfl⟩
  · cases h
theorem step_ext {tm : List TV} {hp : List Ob} {o : Oper} {r : TV × List Ob × Nat × Nat} (h : stepT P M env ops tm hp o = some r) : Ext2 hp r := by
  rcases step_op h with ⟨_, h, _⟩ | ⟨_, rfl⟩
  · exact op_ext h
  · exact ext_same
theorem step_live {tm : List TV} {hp : List Ob} {o : Oper} {r : TV × List Ob × Nat × Nat} (h : stepT P M env ops tm hp o = some r) : ∀ id, r.2.2.2.testBit id = true → ∃ ob, hp[id]? = some ob ∧ ob.live = true := by
  rcases step_op h with ⟨_, h, _⟩ | ⟨_, rfl⟩
  · exact op_live h
  · exact lv0
theorem step_ban {tm : List TV} {hp : List Ob} {o : Oper} {r : TV × List Ob × Nat × Nat} (h : stepT P M env ops tm hp o = some r) : ∀ id, TT r.2.2.2 hp.length r.2.1.length id → TB M.ban id := by
  rcases step_op h with ⟨_, _, hb⟩ | ⟨_, rfl⟩
  · intro id hT
    have h1 : (r.2.2.2 ||| newM hp.length r.2.1.length).testBit id = true := by
      rw [Nat.testBit_or, Bool.or_eq_true]
      rcases hT with hT | hT
      · exact .inl hT
      · exact .inr ((newM_iff (by omega)).2 hT)
    have h2 := Nat.testBit_and (r.2.2.2 ||| newM hp.length r.2.1.length) M.ban id
    rw [hb, h1, Nat.zero_testBit, Bool.true_and] at h2
    exact h2.symm
  · intro id hT
    rcases hT with hT | hT
    · simp at hT
    · simp only at hT; omega
theorem eval_rep {G : Gh} {Z : Zn} {w : World} {a : Act} {tm : List TV} {x : Operand} (hg : Gok M.GL Z w) (hs : a.tmps.size = tm.length) (ht : ∀ t y, x = .tmp t → tm[t]? = some y → Rep G Z w y (a.tmps.getD t undef)) : Rep G Z w (evT M.GL tm x) (a.eval x) := by
  cases x with
  | tmp t =>
    show Rep G Z w (tm.getD t (.lf undef)) (a.tmps.getD t undef)
    rw [List.getD_eq_getElem?_getD]
    cases h : tm[t]? with
    | none =>
      have : a.tmps.size ≤ t := by rw [hs]; exact List.getElem?_eq_none_iff.1 h
      rw [Array.getD_eq_getD_getElem?, Array.getElem?_eq_none this]
      exact rep_lf.2 rfl
    | some y => exact ht t y rfl h
  | const v => exact rep_lf.2 rfl
  | global g =>
    show Rep G Z w (match M.GL g with | some cs => .ep cs 0 | none => .lf (.pointer (some ⟨g, 0, none⟩))) (.pointer (some ⟨g, 0, none⟩))
    split
    · rename_i cs hc
      obtain ⟨vs, h1, h2⟩ := hg g cs hc
      rw [Rep]
      exact ⟨g, 0, vs, rfl, h1, h2⟩
    · exact rep_lf.2 rfl
  | func f =>
    show Rep G Z w (.fn f [] []) (.func (.func f) #[] #[])
    rw [Rep]
    exact ⟨[], [], rfl, repl_nil.2 rfl, repl_nil.2 rfl⟩
theorem want_rep {G : Gh} {Z : Zn} {w : World} {a : Act} {tm : List TV} {o : Oper} {b : Bool} (hs : a.tmps.size = tm.length) (ht : ∀ t y, t ∈ lookT ops o → tm[t]? = some y → Rep G Z w y (a.tmps.getD t undef)) (h : wantT ops tm o = some b) : Region.wanted o (yielded ops a.tmps) = b := by
  unfold wantT at h
  unfold Region.wanted
  cases hg : o.guard with
  | none => rw [hg] at h; simp only [Option.some.injEq] at h ⊢; exact h
  | some gw =>
    obtain ⟨k, want⟩ := gw
    rw [hg] at h
    simp only at h ⊢
    unfold yielded
    cases hd : (ops[k]?).bind (·.dst) with
    | none =>
      rw [hd] at h
      simp only [Option.some.injEq] at h
      subst h
      rfl
    | some d =>
      rw [hd] at h
      simp only at h
      have hl : d ∈ lookT ops o := by simp [lookT, Oper.looksAt, hg, hd]
      cases hx : tm[d]? with
      | none => rw [hx] at h; cases h
      | some x =>
        rw [hx] at h
        have hr := ht d x hl hx
        have hlt : d < a.tmps.size := by rw [hs]; exact (List.getElem?_eq_some_iff.1 hx).1
        rw [Array.getD_eq_getD_getElem?, Array.getElem?_eq_getElem hlt, Option.getD_some] at hr
        simp only [Option.bind_some, Array.getElem?_eq_getElem hlt]
        split at h
        · rename_i c e
          cases e
          rw [rep_lf.1 hr]
          simp only [Option.some.injEq] at h
          subst h
          rfl
        · rename_i vs e
          cases e
          rw [rep_lf.1 hr]
          simp only [Option.some.injEq] at h
          subst h
          rfl
        · cases h
theorem mem_look {o : Oper} {t : Nat} (h : Operand.tmp t ∈ o.op.operands) : t ∈ lookT ops o := by
  unfold lookT Oper.looksAt
  exact List.mem_append_left _ (List.mem_filterMap.2 ⟨.tmp t, by simpa using h, rfl⟩)
theorem region_sound {G0 : Gh} {Z0 : Zn} {w0 : World} {a0 : Act} {tm tm' : List TV} {hp hp' : List Ob} {id : Nat} {Q : Exit → Act → World → Prop} (hE : ES P M.GL M.bn env) (hF : OkF P M.okF) (hm : P.follows .mixedOrders = true) (hac : acyT ops = true) (h0 : SR M G0 Z0 w0 a0 tm hp) (h : runD P M env ops (depM ops.toList []) ops.toList tm hp [] = some (tm', hp'))
    (hQ : ∀ a G Z w, SR M G Z w a tm' hp' → a.defers = a0.defers → Stp G0 G Z0 Z w0 w (TB M.ban) → Q .normal a w) : (Code.region id ops true).wp P Q a0 w0 := by
  obtain ⟨tq, hq, lq, rq, e1, e2, _, e4, e5, hseq⟩ := run_seq ops.toList (i := 0) h rfl (fun k => by simp)
  rw [Nat.zero_add] at e4 e5 hseq
  obtain ⟨n, hn⟩ : ∃ n, n = ops.size := ⟨_, rfl⟩
  rw [Array.length_toList, ← hn] at e4 e5 hseq
  have opAt : ∀ k, k < n → ∃ o, ops[k]? = some o := fun k hk => ⟨_, Array.getElem?_eq_getElem (by omega)⟩
  have tlen : ∀ k, k ≤ n → (tq k).length = tm.length := by
    intro k
    induction k with
    | zero => intro _; rw [e1]
    | succ k ih =>
      intro hk
      obtain ⟨o, ho⟩ := opAt k (by omega)
      rw [(hseq.step k o (Nat.zero_le _) (by omega) ho).2.1, putT_len, ih (by omega)]
  have hext : ∀ k o, k < n → ops[k]? = some o → (hq k).length ≤ (hq (k + 1)).length ∧ ∀ x, ¬ (lq k).W.testBit x = true → (hq (k + 1))[x]? = (hq k)[x]? := fun k o hk ho => by
    obtain ⟨s1, _, s3⟩ := hseq.step k o (Nat.zero_le _) hk ho
    obtain ⟨x1, x2⟩ := step_ext s1
    refine ⟨x1, fun x hx => ?_⟩
    rw [s3] at hx
    simp only [Nat.testBit_or, Bool.or_eq_true, not_or] at hx
    by_cases hlt : x < (hq k).length
    · exact x2 x hlt (by simpa using hx.1)
    · have h3 : ¬ x < (hq (k + 1)).length := fun h3 => hx.2 ((newM_iff x1).2 ⟨by omega, h3⟩)
      rw [List.getElem?_eq_none (by omega), List.getElem?_eq_none (by omega)]
  have hstab : ∀ x p q, p ≤ q → q ≤ n → (∀ i, p ≤ i → i < q → ¬ (lq i).W.testBit x = true) → (hq q)[x]? = (hq p)[x]? := by
    intro x p q hpq
    induction q with
    | zero =>
      intro _ _
      obtain rfl : p = 0 := by omega
      rfl
    | succ q ih =>
      intro hqn hw
      by_cases e : p = q + 1
      · subst e; rfl
      · obtain ⟨o, ho⟩ := opAt q (by omega)
        rw [(hext q o (by omega) ho).2 x (hw q (by omega) (by omega)), ih (by omega) (by omega) (fun i h1 h2 => hw i h1 (by omega))]
  have tstab : ∀ t p q, p ≤ q → q ≤ n → (∀ i, p ≤ i → i < q → ¬ (lq i).dst = some t) → (tq q)[t]? = (tq p)[t]? := by
    intro t p q hpq
    induction q with
    | zero =>
      intro _ _
      obtain rfl : p = 0 := by omega
      rfl
    | succ q ih =>
      intro hqn hw
      by_cases e : p = q + 1
      · subst e; rfl
      · obtain ⟨o, ho⟩ := opAt q (by omega)
        obtain ⟨_, s2, s3⟩ := hseq.step q o (Nat.zero_le _) (by omega) ho
        have hd : o.dst ≠ some t := fun e => hw q (by omega) (by omega) (by rw [s3]; exact e)
        rw [s2, ← ih (by omega) (by omega) (fun i h1 h2 => hw i h1 (by omega))]
        cases hod : o.dst with
        | none => rfl
        | some d =>
          rw [hod] at hd
          exact List.getElem?_set_ne (fun e => hd (by rw [e]))
  have hmono : ∀ p q, p ≤ q → q ≤ n → (hq p).length ≤ (hq q).length := by
    intro p q hpq
    induction q with
    | zero =>
      intro _
      obtain rfl : p = 0 := by omega
      exact Nat.le_refl _
    | succ q ih =>
      intro hqn
      by_cases e : p = q + 1
      · subst e; exact Nat.le_refl _
      · obtain ⟨o, ho⟩ := opAt q (by omega)
        exact Nat.le_trans (ih (by omega) (by omega)) (hext q o (by omega) ho).1
  refine wp_region_any hm (wpAny_inv (fun listed a w => listed.size = n ∧ (∀ j o e, listed.getD j false = true → ops[j]? = some o → e ∈ o.after → Region.binds .any e = true → listed.getD e.on false = true) ∧ a.tmps.size = tm.length ∧ a.defers = a0.defers ∧ ∃ G Z, Inv M.GL G Z w (fun x ob => ∃ m, Vd n (fun i => (lq i).W.testBit x = true) (fun i => listed.getD i false = true) m ∧ (hq m)[x]? = some ob) ∧ (∀ t m y, Vd n (fun i => (lq i).dst = some t) (fun i => listed.getD i false = true) m → (tq m)[t]? = some y → Rep G Z w y (a.tmps.getD t undef)) ∧ Stp G0 G Z0 Z w0 w (TB M.ban)) ?_ ?_ ops.size (List.range ops.size) _ a0 _ (fun i hi _ => List.mem_range.2 hi) (by simp) ?_)
  · rintro listed a w ⟨hsz, hcl, hs, hdf, G, Z, hI, hT, hst⟩ hr
    have hall : ∀ k, k < n → listed.getD k false = true := by
      intro k
      induction k using Nat.strongRecOn with
      | _ k ih =>
        intro hk
        cases hb : listed.getD k false with
        | true => rfl
        | false =>
          obtain ⟨o, ho⟩ := opAt k hk
          have : k ∈ Region.ready .any ops listed := mem_ready.2 ⟨by
            have hlt : k < listed.size := by omega
            rw [Array.getD_eq_getD_getElem?, Array.getElem?_eq_getElem hlt] at hb ⊢
            exact hb, o, ho, fun e he hbe => by
            have := List.all_eq_true.1 hac k (List.mem_range.2 (by omega))
            rw [ho] at this
            have := List.all_eq_true.1 this e (by simpa using he)
            rw [hbe] at this
            have hlt : e.on < k := by simpa using this
            exact ih e.on hlt (by omega)⟩
          rw [hr] at this; cases this
    have vdn : ∀ Wr : Nat → Prop, Vd n Wr (fun i => listed.getD i false = true) n := fun Wr => ⟨Nat.le_refl _, fun i hi _ => hall i hi, fun i h1 h2 => by omega⟩
    refine hQ a G Z w ⟨inv_imp hI (fun x ob hx => ⟨n, vdn _, by rw [e5]; exact hx⟩) (fun x ob hx => ?_), by rw [hs, ← e4, tlen n (Nat.le_refl _)], fun t y hy => hT t n y (vdn _) (by rw [e4]; exact hy)⟩ hdf hst
    obtain ⟨m, hv, hx⟩ := hx
    refine ⟨ob, ?_⟩
    show hp'[x]? = some ob
    rw [← e5, ← hx]
    exact hstab x m n hv.1 (Nat.le_refl _) fun i h1 h2 => hv.2.2 i h1 h2 (hall i h2)
  · rintro listed a w j ⟨hsz, hcl, hs, hdf, G, Z, hI, hT, hst⟩ hr
    obtain ⟨hj, hj0, o, ho, hjd⟩ := ready_mem hr
    have hjn : j < n := by omega
    have hSj : ¬ listed.getD j false = true := by
      have hlt : j < listed.size := by omega
      rw [Array.getD_eq_getD_getElem?, Array.getElem?_eq_getElem hlt] at hj0 ⊢
      rw [Option.getD_some] at hj0 ⊢
      rw [hj0]; simp
    obtain ⟨s1, s2, s3⟩ := hseq.step j o (Nat.zero_le _) hjn ho
    have dep1 : ∀ i, i < j → conf (lq i) (lq j) = true → listed.getD i false = true := fun i hi hc => dep_done (S := fun i => listed.getD i false = true) hac hcl j o i ho hjd (hseq.chk j i (Nat.zero_le _) hjn hi hc)
    have dep2 : ∀ i, j < i → i < n → conf (lq j) (lq i) = true → listed.getD i false = true → listed.getD j false = true := fun i hi hin hc hSi => by
      obtain ⟨o', ho'⟩ := opAt i hin
      exact dep_done (S := fun i => listed.getD i false = true) hac hcl i o' j ho' (fun e he hb => hcl i o' e hSi ho' he hb) (hseq.chk i j (Nat.zero_le _) hin hi hc)
    have vdO : ∀ x, ((lq j).R.testBit x = true ∨ (lq j).W.testBit x = true) → Vd n (fun i => (lq i).W.testBit x = true) (fun i => listed.getD i false = true) j := fun x hx => vd_at hjn (fun i hi hw => dep1 i hi (conf_w hw hx)) (fun i hi hin hSi hw => hSj (dep2 i hi hin (hx.elim (fun h => conf_r h hw) (fun h => conf_w h (.inr hw))) hSi)) hSj
    have vdT : ∀ t, t ∈ lookT ops o → Vd n (fun i => (lq i).dst = some t) (fun i => listed.getD i false = true) j := fun t ht => by
      have ht' : t ∈ (lq j).look := by rw [s3]; exact ht
      exact vd_at hjn (fun i hi hw => dep1 i hi (conf_d hw (.inl ht'))) (fun i hi hin hSi hw => hSj (dep2 i hi hin (conf_l ht' hw) hSi)) hSj
    have hTj : ∀ t y, t ∈ lookT ops o → (tq j)[t]? = some y → Rep G Z w y (a.tmps.getD t undef) := fun t y ht hy => hT t j y (vdT t ht) hy
    have hs' : a.tmps.size = (tq j).length := by rw [hs, tlen j (Nat.le_of_lt hjn)]
    have S' : ∀ k, (listed.setIfInBounds j true).getD k false = true ↔ (listed.getD k false = true ∨ k = j) := fun k => by
      have hlt : j < listed.size := by omega
      rw [Array.getD_eq_getD_getElem?, Array.getD_eq_getD_getElem?, Array.getElem?_setIfInBounds]
      by_cases e : j = k
      · subst e; simp [hlt]
      · simp only [if_neg e]
        constructor
        · exact .inl
        · rintro (h | h)
          · exact h
          · exact absurd h.symm e
    have SS : (fun k => (listed.setIfInBounds j true).getD k false = true) = (fun k => listed.getD k false = true ∨ k = j) := funext fun k => propext (S' k)
    have hcl' : ∀ j' o' e, (listed.setIfInBounds j true).getD j' false = true → ops[j']? = some o' → e ∈ o'.after → Region.binds .any e = true → (listed.setIfInBounds j true).getD e.on false = true := fun j' o' e h1 h2 h3 h4 => by
      rcases (S' j').1 h1 with h1 | rfl
      · exact (S' _).2 (.inl (hcl j' o' e h1 h2 h3 h4))
      · rw [ho] at h2; cases h2
        exact (S' _).2 (.inl (hjd e h3 h4))
    have freshJ : ∀ x, (hq j).length ≤ x → x < (hq (j + 1)).length → G x = none := fun x hx1 hx2 => by
      cases hg : G x with
      | none => rfl
      | some i =>
        exfalso
        obtain ⟨ob, m, hv, hob⟩ := hI.dom x i hg
        have hw : (lq j).W.testBit x = true := by
          rw [s3]
          simp only [Nat.testBit_or, Bool.or_eq_true]
          exact .inr ((newM_iff (hext j o hjn ho).1).2 ⟨hx1, hx2⟩)
        have hm1 := (List.getElem?_eq_some_iff.1 hob).1
        have hjm : j < m := Nat.lt_of_not_le fun hle => by
          have := hmono m j hle (Nat.le_of_lt hjn); omega
        exact hSj (hv.2.1 j hjm hw)
    have hliv : Liv (fun x ob => ∃ m, Vd n (fun i => (lq i).W.testBit x = true) (fun i => listed.getD i false = true) m ∧ (hq m)[x]? = some ob) G (TT (rq j).2 (hq j).length (hq (j + 1)).length) := fun x i hT hi => by
      rcases hT with hT | ⟨h1, h2⟩
      · obtain ⟨ob, h1, h2⟩ := step_live s1 x hT
        exact ⟨ob, ⟨j, vdO x (.inr (by rw [s3]; simp only [Nat.testBit_or, Bool.or_eq_true]; exact .inl hT)), h1⟩, h2⟩
      · rw [freshJ x h1 h2] at hi; cases hi
    have finish : ∀ {v : Value} {G' : Gh} {Z' : Zn} {w' : World}, Res G Z w (hq j).length (hq (j + 1)) (rq j).2 (rq j).1 G' Z' w' v → (listed.setIfInBounds j true).size = n ∧ (∀ j' o' e, (listed.setIfInBounds j true).getD j' false = true → ops[j']? = some o' → e ∈ o'.after → Region.binds .any e = true → (listed.setIfInBounds j true).getD e.on false = true) ∧ (a.put o.dst v).tmps.size = tm.length ∧ (a.put o.dst v).defers = a0.defers ∧ ∃ G Z, Inv M.GL G Z w' (fun x ob => ∃ m, Vd n (fun i => (lq i).W.testBit x = true) (fun i => (listed.setIfInBounds j true).getD i false = true) m ∧ (hq m)[x]? = some ob) ∧ (∀ t m y, Vd n (fun i => (lq i).dst = some t) (fun i => (listed.setIfInBounds j true).getD i false = true) m → (tq m)[t]? = some y → Rep G Z w' y ((a.put o.dst v).tmps.getD t undef)) ∧ Stp G0 G Z0 Z w0 w' (TB M.ban) := by
      intro v G' Z' w' res
      refine ⟨by simp [hsz], hcl', by rw [Act.put_size, hs], by rw [Act.put_defs, hdf], G', Z', ?_, ?_, hst.trans (res.stp.mono (step_ban s1))⟩
      · rw [SS]
        have hTW : ∀ x, TT (rq j).2 (hq j).length (hq (j + 1)).length x ↔ (lq j).W.testBit x = true := fun x => by
          rw [s3]
          simp only [Nat.testBit_or, Bool.or_eq_true]
          rw [newM_iff (hext j o hjn ho).1]
          rfl
        refine inv_imp (hI.next hliv res) (fun x ob hx => ?_) (fun x ob hx => ?_)
        · obtain ⟨m, hv, hx⟩ := hx
          by_cases hw : (lq j).W.testBit x = true
          · obtain ⟨h1, h2⟩ := vd_on hjn hSj (fun i hi hin hwi hSi => dep2 i hi hin (conf_w hw (.inr hwi)) hSi) hw hv
            refine .inl ⟨(hTW x).2 hw, ?_⟩
            rw [← hstab x (j + 1) m h1 hv.1 (fun i h3 h4 => h2 i h3 h4)]
            exact hx
          · exact .inr ⟨fun e => hw ((hTW x).1 e), m, vd_off hw hv, hx⟩
        · rcases hx with ⟨h1, h2⟩ | ⟨h1, m, hv, hx⟩
          · have hw := (hTW x).1 h1
            exact ⟨ob, j + 1, vd_new hjn (fun i hi hwi => dep1 i hi (conf_w hwi (.inr hw))) hSj (fun i hi hin hwi hSi => dep2 i hi hin (conf_w hw (.inr hwi)) hSi) hw, h2⟩
          · exact ⟨ob, m, vd_keep (fun e => h1 ((hTW x).2 e)) hv, hx⟩
      · rw [SS]
        intro t m y hv hy
        by_cases hw : (lq j).dst = some t
        · obtain ⟨h1, h2⟩ := vd_on hjn hSj (fun i hi hin hwi hSi => dep2 i hi hin (conf_d hw (.inr hwi)) hSi) hw hv
          rw [tstab t (j + 1) m h1 hv.1 (fun i h3 h4 => h2 i h3 h4), s2] at hy
          have hod : o.dst = some t := by rw [s3] at hw; exact hw
          rw [hod] at hy ⊢
          have hlt : t < (tq j).length := by
            have := (List.getElem?_eq_some_iff.1 hy).1
            simpa [putT] using this
          have : (putT (tq j) (some t) (rq j).1)[t]? = some (rq j).1 := List.getElem?_set_self hlt
          rw [this] at hy; cases hy
          rw [Act.put_self (show t < a.tmps.size by rw [hs']; exact hlt)]
          exact res.rep
        · have hod : o.dst ≠ some t := fun e => hw (by rw [s3]; exact e)
          rw [Act.put_get hod]
          exact (hT t m y (vd_off hw hv) hy).keep res.stp.gle res.stp.kp
    unfold wpOp
    rw [ho]
    simp only
    rcases step_op s1 with ⟨hwt, s1', _⟩ | ⟨hwt, s1'⟩
    · rw [want_rep hs' hTj hwt, if_pos rfl]
      refine .inl (op_sound hE hF hI s1' (fun x hx => eval_rep hI.glo hs' fun t y e hy => hTj t y (mem_look (e ▸ hx)) hy) ?_ ?_ fun v G' Z' w' res => finish res)
      · exact freshJ
      · intro x ob hx hob
        refine ⟨j, vdO x ?_, hob⟩
        rw [s3]
        simp only [Nat.testBit_or, Bool.or_eq_true] at hx ⊢
        exact hx.imp (fun h => h) .inl
    · rw [want_rep hs' hTj hwt]
      simp only [Bool.false_eq_true, if_false]
      simp only [Prod.mk.injEq] at s1'
      obtain ⟨t1, t2, t3, t4⟩ := s1'
      refine finish (G' := G) (Z' := Z) ?_
      rw [t1, t2, t4]
      exact res_pure hI (rep_lf.2 rfl)
  · have hz : ∀ k, (Array.replicate ops.size false).getD k false = false := fun k => by
      simp only [Array.getD_eq_getD_getElem?, Array.getElem?_replicate]; split <;> rfl
    have hkp : Kp Z0 Z0 w0 { w0 with drawn := w0.drawn + 1 } := ⟨fun _ _ h => h, fun _ _ _ => rfl⟩
    have hb : Below w0.heap.size w0 { w0 with drawn := w0.drawn + 1 } := ⟨rfl, rfl, rfl, Nat.le_refl _, fun _ _ => rfl⟩
    have hst : Stp G0 G0 Z0 Z0 w0 { w0 with drawn := w0.drawn + 1 } (TB M.ban) := ⟨Gle.refl _, fun _ _ h => h, hkp, hb.mono (Nat.zero_le _), fun b hb' _ => hb.block b hb', fun id i b h1 h2 => .inr ⟨id, i, .inr rfl, h1, h2⟩, fun _ _ h => .inl h, h0.inv.zlt⟩
    refine ⟨by simp [hn], fun j o e h1 => (by rw [hz] at h1; cases h1), h0.siz, rfl, G0, Z0, ?_, ?_, hst⟩
    · have hI : Inv M.GL G0 Z0 { w0 with drawn := w0.drawn + 1 } (HPl hp) := ⟨fun x ob hx => ?_, h0.inv.free, h0.inv.dist, h0.inv.dom, h0.inv.zlt, h0.inv.glo.keep hkp⟩
      · refine inv_imp hI (fun x ob hx => ?_) (fun x ob hx => ⟨ob, 0, ⟨Nat.zero_le _, fun i hi => by omega, fun i _ _ hS => by have hS : (Array.replicate ops.size false).getD _ false = true := hS; rw [hz] at hS; cases hS⟩, by rw [e2]; exact hx⟩)
        obtain ⟨m, hv, hx⟩ := hx
        show hp[x]? = some ob
        rw [← e2, ← hx]
        exact (hstab x 0 m (Nat.zero_le _) hv.1 fun i _ h2 hw => by have this : (Array.replicate ops.size false).getD i false = true := hv.2.1 i h2 hw; rw [hz] at this; cases this).symm
      · have := h0.inv.good x ob hx
        cases ob with
        | vr e cs =>
          obtain ⟨g, vs, k1, k2, k3, k4⟩ := this
          exact ⟨g, vs, k1, k2, k3.keep (Gle.refl _) hkp, k4⟩
        | ro e sz c cs fz =>
          obtain ⟨v, cells, k1, k2, k3, k4, k5⟩ := this
          exact ⟨v, cells, k1, k2, k3, k4.keep (Gle.refl _) hkp, k5⟩
        | ot m => exact this
    · intro t m y hv hy
      rw [tstab t 0 m (Nat.zero_le _) hv.1 (fun i _ h2 hw => by have this : (Array.replicate ops.size false).getD i false = true := hv.2.1 i h2 hw; rw [hz] at this; cases this), e1] at hy
      exact (h0.tmp t y hy).keep (Gle.refl _) hkp
end
end Go.Eng
end

section
set_option linter.unusedVariables false
set_option linter.unusedSimpArgs false
namespace Go.Eng
open Go.RowKit
inductive Ex
  | nor
  | ext (id : Nat)
  | ret
abbrev XR := Option (Ex × List TV × List Ob)
def keepT (keep : List Nat) : Nat → List TV → List TV
  | _, [] => []
  | i, t :: ts => (if keep.contains i = true then t else .bad) :: keepT keep (i + 1) ts
def promote : List (Option Nat × Nat × TypeId × Nat) → List TV → List Ob → List TV × List Ob
  | [], tm, hp => (tm, hp)
  | (none, t, e, sz) :: l, tm, hp => match tm[t]? with
    | some x => if isNil x = true ∧ 0 < sz then promote l (tm.set t (.vw hp.length sz 0 0 false)) (hp ++ [.ro e sz 0 [] 0]) else promote l tm hp
    | none => promote l tm hp
  | (some id, c, e, sz) :: l, tm, hp => match hp[id]? with
    | some (.vr e' cs) => match cs[c]? with
      | some x => if isNil x = true ∧ 0 < sz then promote l tm (hp.set id (.vr e' (cs.set c (.vw hp.length sz 0 0 false))) ++ [.ro e sz 0 [] 0]) else promote l tm hp
      | none => promote l tm hp
    | _ => promote l tm hp
structure Hint where
  keep : List Nat
  prom : List (Option Nat × Nat × TypeId × Nat)
def compact (n0 : Nat) (tm : List TV) (hp : List Ob) : Option (List TV × List Ob) :=
  let L := reach hp (4 * hp.length + 4) (((hp.take n0).map idsO).flatten ++ idsL tm) (List.range n0)
  if (closed0 hp L = true ∧ (idsL tm).all (fun i => L.contains i) = true) ∧ L.take n0 = List.range n0 then some (renL (idx L) tm, L.map fun id => renO (idx L) (hp.getD id (.ot none))) else none
def clean (n0 : Nat) (h : Option Hint) (tm : List TV) (hp : List Ob) : Option (List TV × List Ob) :=
  match h with
  | none => some (tm, hp)
  | some h => if n0 ≤ hp.length then (match promote h.prom (keepT h.keep 0 tm) hp with
    | (tm1, hp1) => compact n0 tm1 hp1) else none
def iter (cl : List TV → List Ob → Option (List TV × List Ob)) (body : List TV → List Ob → XR) : Nat → List TV → List Ob → XR
  | 0, _, _ => none
  | n + 1, tm, hp => match cl tm hp with
    | some (tm1, hp1) => match body tm1 hp1 with
      | some (.nor, tm2, hp2) => iter cl body n tm2 hp2
      | x => x
    | none => none
def exec (P : Program) (M : Prm) (env : EnvT) (fu n0 : Nat) (hint : Nat → Option Hint) : Nat → Code → List TV → List Ob → XR
  | _, .skip, tm, hp => some (.nor, tm, hp)
  | _, .region _ ops draw, tm, hp => if draw = true then (if acyT ops = true then (runD P M env ops (depM ops.toList []) ops.toList tm hp []).map fun s => (.nor, s.1, s.2) else none) else (runS P M env ops ops.toList tm hp).map fun s => (.nor, s.1, s.2)
  | b, .seq x y, tm, hp => match exec P M env fu n0 hint b x tm hp with
    | some (.nor, tm1, hp1) => exec P M env fu n0 hint b y tm1 hp1
    | r => r
  | b, .cond c x y, tm, hp => match evT M.GL tm c with
    | .lf (.bool true) => exec P M env fu n0 hint b x tm hp
    | .lf (.bool false) => exec P M env fu n0 hint b y tm hp
    | _ => none
  | _, .block id c, tm, hp => match exec P M env fu n0 hint id c tm hp with
    | some (.ext i, tm1, hp1) => if i = id then some (.nor, tm1, hp1) else some (.ext i, tm1, hp1)
    | r => r
  | b, .scope c, tm, hp => exec P M env fu n0 hint b c tm hp
  | b, .loop c, tm, hp => iter (clean n0 (hint b)) (exec P M env fu n0 hint b c) fu tm hp
  | _, .exit id, tm, hp => some (.ext id, tm, hp)
  | _, .label _, tm, hp => some (.nor, tm, hp)
  | _, .ret, tm, hp => some (.ret, tm, hp)
  | _, _, _, _ => none
def exM : Ex → Exit → Prop
  | .nor, .normal => True
  | .ext i, .exit j => i = j
  | .ret, .ret => True
  | _, _ => False
def Beh (M : Prm) (G0 : Gh) (Z0 : Zn) (w0 : World) (d0 : List Deferred) (r : Ex × List TV × List Ob) (e : Exit) (a : Act) (w : World) : Prop := ∃ G Z, exM r.1 e ∧ SR M G Z w a r.2.1 r.2.2 ∧ a.defers = d0 ∧ Stp G0 G Z0 Z w0 w (TB M.ban)
section
variable {P : Program} {M : Prm} {env : EnvT} {ops : Array Oper} {fu n0 : Nat} {hint : Nat → Option Hint} {G0 : Gh} {Z0 : Zn} {w0 : World} {d0 : List Deferred}
theorem fresh_of {G : Gh} {Z : Zn} {w : World} {a : Act} {tm : List TV} {hp : List Ob} (hs : SR M G Z w a tm hp) : ∀ id, hp.length ≤ id → G id = none := fresh_l hs.inv
theorem sr_next {G G' : Gh} {Z Z' : Zn} {w w' : World} {a : Act} {tm : List TV} {hp hp' : List Ob} {R W : Nat} {t : TV} {v : Value} {d : Option Tmp} (hs : SR M G Z w a tm hp) (hx : Ext2 hp (t, hp', R, W)) (hlv : ∀ id, W.testBit id = true → ∃ ob, hp[id]? = some ob ∧ ob.live = true) (hr : Res G Z w hp.length hp' W t G' Z' w' v) : SR M G' Z' w' (a.put d v) (putT tm d t) hp' := by
  refine ⟨inv_full hs.inv hx (liv_of (fresh_of hs) hlv) hr, by rw [Act.put_size, putT_len, hs.siz], fun k y hy => ?_⟩
  cases d with
  | none => exact (hs.tmp k y hy).keep hr.stp.gle hr.stp.kp
  | some d =>
    by_cases e : d = k
    · subst e
      have hlt : d < tm.length := by have := (List.getElem?_eq_some_iff.1 hy).1; simpa [putT] using this
      have : (putT tm (some d) t)[d]? = some t := List.getElem?_set_self hlt
      rw [this] at hy; cases hy
      rw [Act.put_self (show d < a.tmps.size by rw [hs.siz]; exact hlt)]
      exact hr.rep
    · have : (putT tm (some d) t)[k]? = tm[k]? := List.getElem?_set_ne e
      rw [this] at hy
      rw [Act.put_get (fun h => e (by injection h))]
      exact (hs.tmp k y hy).keep hr.stp.gle hr.stp.kp
theorem runS_sound (hE : ES P M.GL M.bn env) (hF : OkF P M.okF) {Q : Exit → Act → World → Prop} {tm' : List TV} {hp' : List Ob} : ∀ (rest : List Oper) (i : Nat) {G : Gh} {Z : Zn} {w : World} {a : Act} {tm : List TV} {hp : List Ob}, (∀ k, rest[k]? = ops[i + k]?) → runS P M env ops rest tm hp = some (tm', hp') → SR M G Z w a tm hp → a.defers = d0 → Stp G0 G Z0 Z w0 w (TB M.ban) →
    (∀ a G Z w, SR M G Z w a tm' hp' → a.defers = d0 → Stp G0 G Z0 Z w0 w (TB M.ban) → Q .normal a w) → wpOps P ops Q (List.range' i rest.length) a w
  | [], i, G, Z, w, a, tm, hp, hr, h, hs, hd, hst, hQ => by
    cases h
    exact hQ a G Z w hs hd hst
  | o :: os, i, G, Z, w, a, tm, hp, hr, h, hs, hd, hst, hQ => by
    rw [runS] at h
    split at h
    · rename_i t hp1 R W hstp
      have ho : ops[i]? = some o := by have := hr 0; simpa using this.symm
      rw [List.length_cons, List.range'_succ, wpOps_cons]
      have next : ∀ {v : Value} {G' : Gh} {Z' : Zn} {w' : World}, Res G Z w hp.length hp1 W t G' Z' w' v → wpOps P ops Q (List.range' (i + 1) os.length) (a.put o.dst v) w' := fun {v G' Z' w'} res =>
        runS_sound hE hF os (i + 1) (fun k => by have := hr (k + 1); rwa [List.getElem?_cons_succ, show i + (k + 1) = i + 1 + k by omega] at this) h (sr_next hs (step_ext hstp) (step_live hstp) res) (by rw [Act.put_defs, hd]) (hst.trans (res.stp.mono (step_ban hstp))) hQ
      unfold wpOp
      rw [ho]
      simp only
      rcases step_op hstp with ⟨hwt, hstp', _⟩ | ⟨hwt, hstp'⟩
      · rw [want_rep hs.siz (fun t y _ hy => hs.tmp t y hy) hwt, if_pos rfl]
        exact .inl (op_sound hE hF hs.inv hstp' (fun x hx => eval_rep hs.inv.glo hs.siz fun t y _ hy => hs.tmp t y hy) (fun id h1 _ => fresh_of hs id h1) (fun id ob _ hob => hob) fun v G' Z' w' res => next res)
      · rw [want_rep hs.siz (fun t y _ hy => hs.tmp t y hy) hwt]
        simp only [Bool.false_eq_true, if_false]
        cases hstp'
        exact next (G' := G) (Z' := Z) (res_pure hs.inv (rep_lf.2 rfl))
    · cases h
theorem keepT_get {keep : List Nat} : ∀ {tm : List TV} {i k : Nat} {x : TV}, (keepT keep i tm)[k]? = some x → ∃ y, tm[k]? = some y ∧ (x = y ∨ x = .bad)
  | [], i, k, x, h => by simp [keepT] at h
  | t :: ts, i, 0, x, h => by
    simp only [keepT, List.getElem?_cons_zero, Option.some.injEq] at h
    refine ⟨t, rfl, ?_⟩
    split at h
    · exact .inl h.symm
    · exact .inr h.symm
  | t :: ts, i, k + 1, x, h => by
    simp only [keepT, List.getElem?_cons_succ] at h
    simpa using keepT_get h
theorem keepT_len {keep : List Nat} : ∀ {tm : List TV} {i : Nat}, (keepT keep i tm).length = tm.length
  | [], i => rfl
  | t :: ts, i => by rw [keepT, List.length_cons, List.length_cons, keepT_len]
theorem sr_keep {G : Gh} {Z : Zn} {w : World} {a : Act} {tm : List TV} {hp : List Ob} {keep : List Nat} (hs : SR M G Z w a tm hp) : SR M G Z w a (keepT keep 0 tm) hp :=
  ⟨hs.inv, by rw [keepT_len]; exact hs.siz, fun t x hx => by
    obtain ⟨y, h1, h2⟩ := keepT_get hx
    rcases h2 with rfl | rfl
    · exact hs.tmp t _ h1
    · exact rep_bad⟩
theorem sr_row {G : Gh} {Z : Zn} {w : World} {a : Act} {tm : List TV} {hp : List Ob} {e : TypeId} {sz : Nat} (hs : SR M G Z w a tm hp) (h0 : 0 < sz) (hT : TB M.ban hp.length) (hst : Stp G0 G Z0 Z w0 w (TB M.ban)) : ∃ G' Z', SR M G' Z' w a tm (hp ++ [.ro e sz 0 [] 0]) ∧ Stp G0 G' Z0 Z' w0 w (TB M.ban) ∧ Gle G G' ∧ Kp Z Z' w w ∧ Rep G' Z' w (.vw hp.length sz 0 0 false) (.slice none 0 0) := by
  obtain ⟨G', Z', hr⟩ := res_newrow (hp := hp) (e := e) (cs := []) (cells := []) (n := 0) (v' := .slice none 0 0) (w' := w) hs.inv (fresh_of hs _ (Nat.le_refl _)) h0 (repl_nil.2 rfl) (by simp) (World.ownsRow_nil w 0 e sz) (Below.refl _ _) (.inl rfl)
  have := sr_next (d := none) hs (ext_app (t := .vw hp.length sz 0 0 false) (R := 0) (W := 0)) (fun id h => by simp at h) hr
  exact ⟨G', Z', this, hst.trans (hr.stp.mono fun id h => by
    rcases h with h | ⟨h1, h2⟩
    · simp at h
    · rw [List.length_append, List.length_singleton] at h2
      rw [show id = hp.length by omega]; exact hT), hr.stp.gle, hr.stp.kp, hr.rep⟩
theorem sr_prom : ∀ (l : List (Option Nat × Nat × TypeId × Nat)) {G : Gh} {Z : Zn} {w : World} {a : Act} {tm : List TV} {hp : List Ob}, SR M G Z w a tm hp → (∀ id, hp.length ≤ id → TB M.ban id) → Stp G0 G Z0 Z w0 w (TB M.ban) → ∃ G' Z', SR M G' Z' w a (promote l tm hp).1 (promote l tm hp).2 ∧ Stp G0 G' Z0 Z' w0 w (TB M.ban)
  | [], G, Z, w, a, tm, hp, hs, hT, hst => ⟨G, Z, hs, hst⟩
  | (none, t, e, sz) :: l, G, Z, w, a, tm, hp, hs, hT, hst => by
    unfold promote
    split
    · rename_i x hx
      split
      · rename_i hc
        obtain ⟨G', Z', h1, h2, h3, h4, h5⟩ := sr_row (e := e) hs hc.2 (hT _ (Nat.le_refl _)) hst
        refine sr_prom l ⟨h1.inv, by rw [List.length_set]; exact h1.siz, fun k y hy => ?_⟩ (fun id h => hT id (by simp at h; omega)) h2
        by_cases ek : t = k
        · subst ek
          rw [List.getElem?_set_self (List.getElem?_eq_some_iff.1 hx).1] at hy; cases hy
          rw [isNil_rep hc.1 (hs.tmp t x hx)]
          exact h5
        · rw [List.getElem?_set_ne ek] at hy
          exact h1.tmp k y hy
      · exact sr_prom l hs hT hst
    · exact sr_prom l hs hT hst
  | (some id, c, e, sz) :: l, G, Z, w, a, tm, hp, hs, hT, hst => by
    unfold promote
    split
    · rename_i e' cs hid
      split
      · rename_i x hx
        split
        · rename_i hc
          obtain ⟨G', Z', h1, h2, h3, h4, h5⟩ := sr_row (e := e) hs hc.2 (hT _ (Nat.le_refl _)) hst
          have hlt := (List.getElem?_eq_some_iff.1 hid).1
          have hid' : (hp ++ [.ro e sz 0 [] 0])[id]? = some (.vr e' cs) := by rw [List.getElem?_append_left hlt]; exact hid
          have get : ∀ k ob, (hp.set id (.vr e' (cs.set c (.vw hp.length sz 0 0 false))) ++ [.ro e sz 0 [] 0])[k]? = some ob → (k = id ∧ ob = .vr e' (cs.set c (.vw hp.length sz 0 0 false))) ∨ (k ≠ id ∧ (hp ++ [.ro e sz 0 [] 0])[k]? = some ob) := fun k ob hk => by
            by_cases ek : k = id
            · subst ek
              rw [List.getElem?_append_left (by simpa using hlt), List.getElem?_set_self hlt] at hk
              cases hk
              exact .inl ⟨rfl, rfl⟩
            · refine .inr ⟨ek, ?_⟩
              by_cases hkl : k < hp.length
              · rw [List.getElem?_append_left (by simpa using hkl), List.getElem?_set_ne (fun e => ek e.symm)] at hk
                rw [List.getElem?_append_left hkl]; exact hk
              · rw [List.getElem?_append_right (by simpa using hkl)] at hk
                rw [List.getElem?_append_right (by omega)]
                simpa using hk
          refine sr_prom l ⟨⟨fun k ob hk => ?_, fun k ob hk => ?_, fun k k' ob ob' i i' b p1 l1 p2 l2 => ?_, fun k i hk => ?_, h1.inv.zlt, h1.inv.glo⟩, h1.siz, h1.tmp⟩ (fun id h => hT id (by simp at h; omega)) h2
          · rcases get k ob hk with ⟨rfl, rfl⟩ | ⟨_, hk⟩
            · obtain ⟨g, vs, k1, k2, k3, k4⟩ := h1.inv.good k _ hid'
              obtain ⟨u, u1, u2⟩ := repl_get k3 hx
              have hu := isNil_rep hc.1 u2
              have hvs : vs.set c (.slice none 0 0) = vs := by
                refine List.ext_getElem? fun p => ?_
                by_cases ep : c = p
                · subst ep
                  rw [List.getElem?_set_self (List.getElem?_eq_some_iff.1 u1).1, u1, hu]
                · rw [List.getElem?_set_ne ep]
              refine ⟨g, vs, k1, k2, ?_, k4⟩
              have := repl_set (i := c) k3 h5
              rwa [hvs] at this
            · exact h1.inv.good k ob hk
          · rcases get k ob hk with ⟨rfl, rfl⟩ | ⟨_, hk⟩
            · have hf := h1.inv.free k (.vr e' cs) hid'
              exact hf
            · exact h1.inv.free k ob hk
          · rcases get k ob p1 with ⟨ek, eo⟩ | ⟨_, q1⟩ <;> rcases get k' ob' p2 with ⟨ek', eo'⟩ | ⟨_, q2⟩
            · intro _ _ _ _; rw [ek, ek']
            · subst ek; exact h1.inv.dist k k' (.vr e' cs) ob' i i' b hid' rfl q2 l2
            · subst ek'; exact h1.inv.dist k k' ob (.vr e' cs) i i' b q1 l1 hid' rfl
            · exact h1.inv.dist k k' ob ob' i i' b q1 l1 q2 l2
          · obtain ⟨ob, ho⟩ := h1.inv.dom k i hk
            have hlen : k < (hp.set id (.vr e' (cs.set c (.vw hp.length sz 0 0 false))) ++ [Ob.ro e sz 0 [] 0]).length := by
              have ho : (hp ++ [Ob.ro e sz 0 [] 0])[k]? = some ob := ho
              have := (List.getElem?_eq_some_iff.1 ho).1
              simpa using this
            exact ⟨_, List.getElem?_eq_getElem hlen⟩
        · exact sr_prom l hs hT hst
      · exact sr_prom l hs hT hst
    · exact sr_prom l hs hT hst
theorem sub_stp {G : Gh} {Z : Zn} {w : World} {L : List Nat} {ban : Nat} (hb : ∀ id, n0 ≤ id → TB ban id) (hn0 : ∀ id i, G0 id = some i → id < n0) (hnd : L.Nodup) (htk : L.take n0 = List.range n0) (hst : Stp G0 G Z0 Z w0 w (TB ban)) : Stp G0 (Gsub G L) Z0 Z w0 w (TB ban) := by
  have hLt : ∀ i, i < n0 → L[i]? = some i := fun i hi => by
    have : (L.take n0)[i]? = some i := by rw [htk, List.getElem?_range hi]
    rw [List.getElem?_take, if_pos hi] at this
    exact this
  refine ⟨fun id i hi => ?_, fun id hT hi => ?_, hst.kp, hst.bel, hst.far, fun id i' b hi' hbk => ?_, hst.zn, hst.zlt⟩
  · rw [gsub_get (hLt id (hn0 id i hi))]; exact hst.gle id i hi
  · rw [gsub_get (hLt id (Nat.lt_of_not_le fun h => hT (hb id h)))]; exact hst.none_ id hT hi
  · unfold Gsub at hi'
    cases hL : L[id]? with
    | none => rw [hL] at hi'; cases hi'
    | some id' =>
      rw [hL] at hi'
      rcases hst.nb id' i' b hi' hbk with k | ⟨id0, i, k0, k1, k2⟩
      · exact .inl k
      · refine .inr ⟨id0, i, ?_, k1, k2⟩
        rcases k0 with k0 | rfl
        · exact .inl k0
        · have h1 := hLt id0 (hn0 id0 i k1)
          have h2 : id < L.length := (List.getElem?_eq_some_iff.1 hL).1
          exact .inr ((List.getElem?_inj h2 hnd).1 (hL.trans h1.symm)).symm
theorem renL_get {f : Nat → Nat} : ∀ {ts : List TV} {k : Nat} {x : TV}, (renL f ts)[k]? = some x → ∃ y, ts[k]? = some y ∧ x = ren f y
  | [], k, x, h => by simp [renL] at h
  | t :: ts, 0, x, h => by
    simp only [renL, List.getElem?_cons_zero, Option.some.injEq] at h
    exact ⟨t, rfl, h.symm⟩
  | t :: ts, k + 1, x, h => by
    simp only [renL, List.getElem?_cons_succ] at h
    simpa using renL_get h
theorem renL_len {f : Nat → Nat} : ∀ {ts : List TV}, (renL f ts).length = ts.length
  | [] => by simp [renL]
  | t :: ts => by simp [renL, renL_len]
theorem ids_mem : ∀ {ts : List TV} {k : Nat} {x : TV} {i : Nat}, ts[k]? = some x → i ∈ ids x → i ∈ idsL ts
  | [], k, x, i, h, _ => by simp at h
  | t :: ts, 0, x, i, h, hi => by
    obtain rfl : t = x := by simpa using h
    rw [idsL]; exact List.mem_append_left _ hi
  | t :: ts, k + 1, x, i, h, hi => by
    rw [idsL]; exact List.mem_append_right _ (ids_mem (by simpa using h) hi)
theorem sr_compact {G : Gh} {Z : Zn} {w : World} {a : Act} {tm tm' : List TV} {hp hp' : List Ob} (hb : ∀ id, n0 ≤ id → TB M.ban id) (hn0 : ∀ id i, G0 id = some i → id < n0) (hs : SR M G Z w a tm hp) (hst : Stp G0 G Z0 Z w0 w (TB M.ban)) (h : compact n0 tm hp = some (tm', hp')) : ∃ G', SR M G' Z w a tm' hp' ∧ Stp G0 G' Z0 Z w0 w (TB M.ban) := by
  unfold compact at h
  simp only at h
  generalize reach hp (4 * hp.length + 4) (((hp.take n0).map idsO).flatten ++ idsL tm) (List.range n0) = L at h
  split at h
  · rename_i hc
    obtain ⟨⟨hcl, hid⟩, htk⟩ := hc
    obtain ⟨hnd, hex, hclo⟩ := closed0_iff hcl
    cases h
    refine ⟨Gsub G L, ⟨hs.inv.sub hnd (fun id ob _ ho => ho) hex hclo, by rw [renL_len]; exact hs.siz, fun t x hx => ?_⟩, sub_stp hb hn0 hnd htk hst⟩
    obtain ⟨y, h1, rfl⟩ := renL_get hx
    refine (hs.tmp t y h1).ren fun i z hi hz => ?_
    have := List.all_eq_true.1 hid i (ids_mem h1 hi)
    rw [gsub_idx (by simpa using this)]; exact hz
  · cases h
theorem sr_clean {G : Gh} {Z : Zn} {w : World} {a : Act} {tm tm' : List TV} {hp hp' : List Ob} {h : Option Hint} (hb : ∀ id, n0 ≤ id → TB M.ban id) (hn0 : ∀ id i, G0 id = some i → id < n0) (hs : SR M G Z w a tm hp) (hst : Stp G0 G Z0 Z w0 w (TB M.ban)) (hc : clean n0 h tm hp = some (tm', hp')) : ∃ G' Z', SR M G' Z' w a tm' hp' ∧ Stp G0 G' Z0 Z' w0 w (TB M.ban) := by
  unfold clean at hc
  split at hc
  · cases hc
    exact ⟨G, Z, hs, hst⟩
  · rename_i h
    split at hc
    · rename_i hle
      obtain ⟨G', Z', h1, h2⟩ := sr_prom h.prom (sr_keep (keep := h.keep) hs) (fun id h => hb id (Nat.le_trans hle h)) hst
      simp only at hc
      obtain ⟨G'', h3, h4⟩ := sr_compact hb hn0 h1 h2 hc
      exact ⟨G'', Z', h3, h4⟩
    · cases hc
theorem exec_sound (hE : ES P M.GL M.bn env) (hF : OkF P M.okF) (hm : P.follows .mixedOrders = true) (hb : ∀ id, n0 ≤ id → TB M.ban id) (hn0 : ∀ id i, G0 id = some i → id < n0) : ∀ (c : Code) (b : Nat) {G : Gh} {Z : Zn} {w : World} {a : Act} {tm : List TV} {hp : List Ob} {r : Ex × List TV × List Ob}, exec P M env fu n0 hint b c tm hp = some r → SR M G Z w a tm hp → a.defers = d0 → Stp G0 G Z0 Z w0 w (TB M.ban) → c.wp P (Beh M G0 Z0 w0 d0 r) a w := by
  intro c
  induction c with
  | skip =>
    intro b G Z w a tm hp r h hs hd hst
    simp only [exec, Option.some.injEq] at h
    subst h
    exact wp_skip ⟨G, Z, trivial, hs, hd, hst⟩
  | region id ops draw =>
    intro b G Z w a tm hp r h hs hd hst
    simp only [exec] at h
    split at h
    · rename_i hdr
      subst hdr
      split at h
      · rename_i hac
        cases hr : runD P M env ops (depM ops.toList []) ops.toList tm hp [] with
        | none => rw [hr] at h; cases h
        | some s =>
          rw [hr] at h
          simp only [Option.map_some, Option.some.injEq] at h
          subst h
          exact region_sound hE hF hm hac hs hr fun a' G' Z' w' h1 h2 h3 => ⟨G', Z', trivial, h1, h2.trans hd, hst.trans h3⟩
      · cases h
    · rename_i hdr
      have hdr : draw = false := by simpa using hdr
      subst hdr
      cases hr : runS P M env ops ops.toList tm hp with
      | none => rw [hr] at h; cases h
      | some s =>
        rw [hr] at h
        simp only [Option.map_some, Option.some.injEq] at h
        subst h
        refine wp_region ?_
        have := runS_sound (ops := ops) (Q := Beh M G0 Z0 w0 d0 (.nor, s.1, s.2)) hE hF ops.toList 0 (fun k => by simp) hr hs hd hst fun a' G' Z' w' h1 h2 h3 => ⟨G', Z', trivial, h1, h2, h3⟩
        rwa [Array.length_toList, ← List.range_eq_range'] at this
  | seq x y ihx ihy =>
    intro b G Z w a tm hp r h hs hd hst
    simp only [exec] at h
    split at h
    · rename_i tm1 hp1 hx
      refine wp_seq (wp_mono (ihx b hx hs hd hst) ?_)
      rintro e a' w' ⟨G', Z', he, h1, h2, h3⟩
      cases e <;> simp only [exM] at he
      exact ihy b h h1 h2 h3
    · rename_i hne
      refine wp_seq (wp_mono (ihx b h hs hd hst) ?_)
      rintro e a' w' ⟨G', Z', he, h1, h2, h3⟩
      obtain ⟨e', tm1, hp1⟩ := r
      cases e' <;> cases e <;> simp only [exM] at he
      · exact absurd h (hne tm1 hp1)
      · exact ⟨G', Z', he, h1, h2, h3⟩
      · exact ⟨G', Z', trivial, h1, h2, h3⟩
  | cond c x y ihx ihy =>
    intro b G Z w a tm hp r h hs hd hst
    simp only [exec] at h
    have hc := eval_rep (x := c) hs.inv.glo hs.siz fun t z _ hz => hs.tmp t z hz
    split at h
    · rename_i e
      rw [e] at hc
      exact wp_cond_true (rep_lf.1 hc) (ihx b h hs hd hst)
    · rename_i e
      rw [e] at hc
      exact wp_cond_false (rep_lf.1 hc) (ihy b h hs hd hst)
    · cases h
  | block id c ih =>
    intro b G Z w a tm hp r h hs hd hst
    simp only [exec] at h
    split at h
    · rename_i i tm1 hp1 hx
      refine wp_block (wp_mono (ih id hx hs hd hst) ?_)
      rintro e a' w' ⟨G', Z', he, h1, h2, h3⟩
      cases e <;> simp only [exM] at he
      rename_i j
      subst he
      simp only [Exit.inBlock]
      split at h
      · rename_i hid
        cases h
        rw [if_pos hid]
        exact ⟨G', Z', trivial, h1, h2, h3⟩
      · rename_i hid
        cases h
        rw [if_neg hid]
        exact ⟨G', Z', rfl, h1, h2, h3⟩
    · rename_i hne
      refine wp_block (wp_mono (ih id h hs hd hst) ?_)
      rintro e a' w' ⟨G', Z', he, h1, h2, h3⟩
      obtain ⟨e', tm1, hp1⟩ := r
      cases e' <;> cases e <;> simp only [exM] at he
      · exact ⟨G', Z', trivial, h1, h2, h3⟩
      · exact absurd h (hne _ tm1 hp1)
      · exact ⟨G', Z', trivial, h1, h2, h3⟩
  | loop c ih =>
    intro b G Z w a tm hp r h hs hd hst
    simp only [exec] at h
    have key : ∀ (n : Nat) {G : Gh} {Z : Zn} {w : World} {a : Act} {tm : List TV} {hp : List Ob}, iter (clean n0 (hint b)) (exec P M env fu n0 hint b c) n tm hp = some r → SR M G Z w a tm hp → a.defers = d0 → Stp G0 G Z0 Z w0 w (TB M.ban) → Code.rounds P c (Beh M G0 Z0 w0 d0 r) n a w := by
      intro n
      induction n with
      | zero => intro G Z w a tm hp h; cases h
      | succ n ihn =>
        intro G Z w a tm hp h hs hd hst
        rw [iter] at h
        split at h
        · rename_i tm1 hp1 hcl
          obtain ⟨G1, Z1, hs1, hst1⟩ := sr_clean hb hn0 hs hst hcl
          rw [rounds_succ]
          split at h
          · rename_i tm2 hp2 hx
            refine wp_mono (ih b hx hs1 hd hst1) ?_
            rintro e a' w' ⟨G', Z', he, h1, h2, h3⟩
            cases e <;> simp only [exM] at he
            exact ihn h h1 h2 h3
          · rename_i hne
            refine wp_mono (ih b h hs1 hd hst1) ?_
            rintro e a' w' ⟨G', Z', he, h1, h2, h3⟩
            obtain ⟨e', tm2, hp2⟩ := r
            cases e' <;> cases e <;> simp only [exM] at he
            · exact absurd h (hne tm2 hp2)
            · exact ⟨G', Z', he, h1, h2, h3⟩
            · exact ⟨G', Z', trivial, h1, h2, h3⟩
        · cases h
    exact wp_loop_rounds fu (key fu h hs hd hst)
  | scope c ih =>
    intro b G Z w a tm hp r h hs hd hst
    simp only [exec] at h
    refine wp_scope_straight (wp_mono (ih b h hs hd hst) ?_)
    rintro e a' w' ⟨G', Z', he, h1, h2, h3⟩
    obtain ⟨e', tm1, hp1⟩ := r
    cases e' <;> cases e <;> simp only [exM] at he
    · exact ⟨G', Z', trivial, h1, h2, h3⟩
    · exact ⟨G', Z', he, h1, h2, h3⟩
    · exact ⟨G', Z', trivial, h1, h2, h3⟩
  | exit id =>
    intro b G Z w a tm hp r h hs hd hst
    simp only [exec, Option.some.injEq] at h
    subst h
    exact wp_exit ⟨G, Z, rfl, hs, hd, hst⟩
  | label l =>
    intro b G Z w a tm hp r h hs hd hst
    simp only [exec, Option.some.injEq] at h
    subst h
    exact wp_label ⟨G, Z, trivial, hs, hd, hst⟩
  | ret =>
    intro b G Z w a tm hp r h hs hd hst
    simp only [exec, Option.some.injEq] at h
    subst h
    exact wp_ret ⟨G, Z, trivial, hs, hd, hst⟩
  | _ => intro b G Z w a tm hp r h; simp [exec] at h
end
end Go.Eng
end

section
set_option linter.unusedVariables false
set_option linter.unusedSimpArgs false
namespace Go.Eng
open Go.RowKit
def resV (P : Program) (tm : List TV) (hp : List Ob) : ResultVar → Option TV
  | .tmp t => some (tm.getD t (.lf undef))
  | .cell t ty => match tm.getD t (.lf undef) with
    | .pt id off => match hp[id]? with
      | some ob => match cellsO ob with
        | some cs => ldT P ty cs off
        | none => none
      | none => none
    | _ => none
def resL (P : Program) (tm : List TV) (hp : List Ob) : List ResultVar → Option TV
  | [x] => resV P tm hp x
  | [] => some (.tu [])
  | [x, y] => match resV P tm hp x, resV P tm hp y with
    | some a, some b => some (.tu [a, b])
    | _, _ => none
  | [x, y, z] => match resV P tm hp x, resV P tm hp y, resV P tm hp z with
    | some a, some b, some c => some (.tu [a, b, c])
    | _, _, _ => none
  | _ => none
def fin (n0 : Nat) (r : TV) (hp : List Ob) : Option (TV × List Ob) :=
  let L := reach hp (4 * hp.length + 4) (((hp.take n0).map idsO).flatten ++ ids r) (List.range n0)
  if (closed0 hp L = true ∧ (ids r).all (fun i => L.contains i) = true) ∧ L.take n0 = List.range n0 then some (ren (idx L) r, L.map fun id => renO (idx L) (hp.getD id (.ot none))) else none
def runF (P : Program) (M : Prm) (env : EnvT) (fu : Nat) (hint : FuncId → Nat → Option Hint) : EnvT := fun f args objs =>
  match P.funcs[f]? with
  | some fn => match fn.body with
    | some c => match exec P { M with ban := M.bn f objs.length } env fu objs.length (hint f) 0 c (args ++ List.replicate (fn.ntmps - args.length) (.lf undef)) objs with
      | some (.ext _, _, _) => none
      | some (_, tm, hp) => match resL P tm hp fn.results.toList with
        | some r => match (match M.resS f with | some ss => frR M.SH 60 ss hp r | none => some (r, hp)) with
          | some (r1, hp1) => fin objs.length r1 hp1
          | none => none
        | none => none
      | none => none
    | none => none
  | none => none
def callF (P : Program) (M : Prm) (base : EnvT) (fu : Nat) (hint : FuncId → Nat → Option Hint) : Nat → EnvT
  | 0 => base
  | n + 1 => fun f args objs => match base f args objs with
    | some r => some r
    | none => runF P M (envZ M.SH M.argS (callF P M base fu hint n)) fu hint f args objs
section
variable {P : Program} {M : Prm} {env base : EnvT} {fu : Nat} {hint : FuncId → Nat → Option Hint}
def rvS (tmps : Array Value) : ResultVar → Sem Value
  | .tmp t => pure (tmps.getD t undef)
  | .cell a t => do loadVar t (← asAddr (tmps.getD a undef))
theorem rvS_run {G : Gh} {Z : Zn} {w : World} {a : Act} {tm : List TV} {hp : List Ob} (hs : SR M G Z w a tm hp) {x : ResultVar} {r : TV} (h : resV P tm hp x = some r) : ∃ v, (rvS a.tmps x).run P w = .ok v w ∧ Rep G Z w r v := by
  have ev := fun t => eval_rep (x := .tmp t) hs.inv.glo hs.siz fun t' z e hz => hs.tmp t' z hz
  cases x with
  | tmp t =>
    simp only [resV, Option.some.injEq] at h
    subst h
    exact ⟨_, rfl, ev t⟩
  | cell t ty =>
    have he := ev t
    simp only [resV] at h
    split at h
    · rename_i id off e
      split at h
      · rename_i ob hid
        split at h
        rotate_left
        · cases h
        rename_i cs hcs
        have he : Rep G Z w (tm.getD t (.lf undef)) (a.tmps.getD t undef) := he
        rw [e] at he
        obtain ⟨g, vs, v0, hv, _, _, k2, k3, _⟩ := obj_at hs.inv (ob := ob) (cs := cs) hid hcs he
        obtain ⟨v, h1, h2⟩ := ldT_rep (g := g) (o := 0) h k3 (fun j v hv => by rw [Nat.zero_add]; exact k2 j v hv)
        refine ⟨v, ?_, h2⟩
        rw [Nat.zero_add] at h1
        simp only [Instr.loadAt, Instr.sureAddr, Sem.run_bind, Sem.run_pure, Result.andThen_ok] at h1
        simp only [rvS, hv, asAddr, Sem.run_bind, Sem.run_pure, Result.andThen_ok]
        exact h1
      · cases h
    · cases h
theorem results_eq (fn : Func) (tmps : Array Value) : results fn tmps = (do let vs ← fn.results.mapM (rvS tmps); pure (if h : vs.size = 1 then vs[0] else .tuple vs)) := by
  unfold results
  congr 2
theorem resL_run {G : Gh} {Z : Zn} {w : World} {a : Act} {tm : List TV} {hp : List Ob} {fn : Func} (hs : SR M G Z w a tm hp) {r : TV} (h : resL P tm hp fn.results.toList = some r) : ∃ v, (results fn a.tmps).run P w = .ok v w ∧ Rep G Z w r v := by
  rw [results_eq]
  generalize fn.results = rs at h
  obtain ⟨l⟩ := rs
  unfold resL at h
  split at h
  · rename_i x e
    have e : l = [x] := e
    subst e
    obtain ⟨v, h1, h2⟩ := rvS_run hs h
    exact ⟨v, by simp [h1], h2⟩
  · rename_i e
    have e : l = [] := e
    subst e
    cases h
    exact ⟨.tuple #[], by simp, by rw [Rep]; exact ⟨[], rfl, repl_nil.2 rfl⟩⟩
  · rename_i x y e
    have e : l = [x, y] := e
    subst e
    split at h
    · rename_i ra rb ha hb
      cases h
      obtain ⟨v, h1, h2⟩ := rvS_run hs ha
      obtain ⟨u, h3, h4⟩ := rvS_run hs hb
      exact ⟨.tuple #[v, u], by simp [h1, h3], by rw [Rep]; exact ⟨[v, u], rfl, repl_cons.2 ⟨_, _, rfl, h2, repl_cons.2 ⟨_, _, rfl, h4, repl_nil.2 rfl⟩⟩⟩⟩
    · cases h
  · rename_i x y z e
    have e : l = [x, y, z] := e
    subst e
    split at h
    · rename_i ra rb rc ha hb hc
      cases h
      obtain ⟨v, h1, h2⟩ := rvS_run hs ha
      obtain ⟨u, h3, h4⟩ := rvS_run hs hb
      obtain ⟨t, h5, h6⟩ := rvS_run hs hc
      exact ⟨.tuple #[v, u, t], by simp [h1, h3, h5], by rw [Rep]; exact ⟨[v, u, t], rfl, repl_cons.2 ⟨_, _, rfl, h2, repl_cons.2 ⟨_, _, rfl, h4, repl_cons.2 ⟨_, _, rfl, h6, repl_nil.2 rfl⟩⟩⟩⟩⟩
    · cases h
  · cases h
theorem runF_sound (hE : ES P M.GL M.bn env) (hF : OkF P M.okF) (hm : P.follows .mixedOrders = true) : ES P M.GL M.bn (runF P M env fu hint) := by
  intro f args objs r objs' h w G Z vs hI hr
  unfold runF at h
  split at h
  · rename_i fn hf
    split at h
    · rename_i c hb
      have hlen := repl_len hr
      have tail : ∀ {ex : Ex} {tm : List TV} {hp : List Ob}, exec P { M with ban := M.bn f objs.length } env fu objs.length (hint f) 0 c (args ++ List.replicate (fn.ntmps - args.length) (.lf undef)) objs = some (ex, tm, hp) → (∀ i, ex ≠ .ext i) → (match resL P tm hp fn.results.toList with | some r => (match (match M.resS f with | some ss => frR M.SH 60 ss hp r | none => some (r, hp)) with | some (r1, hp1) => fin objs.length r1 hp1 | none => none) | none => none) = some (r, objs') →
          Calls P f vs.toArray w fun e w' => ∃ v G' Z', e = .returned v ∧ Stp G G' Z Z' w w' (TB (M.bn f objs.length)) ∧ Inv M.GL G' Z' w' (HPl objs') ∧ Rep G' Z' w' r v := by
        intro ex tm hp hx hne hfin
        refine calls_of_wp hf hb ?_
        have hs0 : SR { M with ban := M.bn f objs.length } G Z w { tmps := vs.toArray ++ Array.replicate (fn.ntmps - vs.toArray.size) undef, defers := [] } (args ++ List.replicate (fn.ntmps - args.length) (.lf undef)) objs := by
          refine ⟨hI, by simp [hlen], fun t x hx => ?_⟩
          have hRL : RepL G Z w (args ++ List.replicate (fn.ntmps - args.length) (.lf undef)) (vs ++ List.replicate (fn.ntmps - args.length) undef) := repl_app hr (repl_of (by simp) fun i t v h1 h2 => by
            rw [List.getElem?_replicate] at h1 h2
            split at h1
            · rename_i hh
              rw [if_pos hh] at h2
              cases h1; cases h2
              exact rep_lf.2 rfl
            · cases h1)
          obtain ⟨v, h1, h2⟩ := repl_get hRL hx
          have e : (vs.toArray ++ Array.replicate (fn.ntmps - vs.toArray.size) undef).getD t undef = v := by
            have : (vs.toArray ++ Array.replicate (fn.ntmps - vs.toArray.size) undef) = (vs ++ List.replicate (fn.ntmps - args.length) undef).toArray := by
              rw [List.size_toArray, hlen]; simp
            rw [this, Array.getD_eq_getD_getElem?]
            simp only [List.getElem?_toArray, h1, Option.getD_some]
          rw [e]; exact h2
        have hn0 : ∀ id i, G id = some i → id < objs.length := fun id i hi => by
          obtain ⟨ob, ho⟩ := hI.dom id i hi
          exact (List.getElem?_eq_some_iff.1 ho).1
        refine wp_mono (exec_sound (M := { M with ban := M.bn f objs.length }) hE hF hm (fun id h => bn_new h) hn0 c 0 hx hs0 rfl (Stp.refl hI.zlt)) ?_
        rintro e a' w' ⟨G', Z', he, hs', hd', hst'⟩
        have body : a'.defers = [] ∧ ∃ v, (results fn a'.tmps).run P w' = .ok v w' ∧ ∃ u G'' Z'', Ending.returned v = .returned u ∧ Stp G G'' Z Z'' w w' (TB (M.bn f objs.length)) ∧ Inv M.GL G'' Z'' w' (HPl objs') ∧ Rep G'' Z'' w' r u := by
          refine ⟨hd', ?_⟩
          split at hfin
          · rename_i r0 hr0
            obtain ⟨v, hv1, hv2⟩ := resL_run hs' hr0
            refine ⟨v, hv1, v, ?_⟩
            split at hfin
            · rename_i r1 hp1 hfz
              obtain ⟨Z2, f2, f2s, hv3⟩ : ∃ Z2, Fzd M.GL G' w' Z' Z2 hp hp1 ∧ Stp G' G' Z' Z2 w' w' (TB (M.bn f objs.length)) ∧ Rep G' Z2 w' r1 v := by
                split at hfz
                · rename_i ss hss
                  obtain ⟨Z2, f2, h3⟩ := frR_sound hfz hs'.inv hv2
                  exact ⟨Z2, f2, by rw [bn_res f _ (by rw [hss]; rfl)]; exact f2.stp.mono fun _ _ => Nat.zero_testBit _, h3⟩
                · cases hfz; exact ⟨Z', Fzd.refl hs'.inv, Stp.refl hs'.inv.zlt, hv2⟩
              unfold fin at hfin
              simp only at hfin
              generalize reach hp1 (4 * hp1.length + 4) (((hp1.take objs.length).map idsO).flatten ++ ids r1) (List.range objs.length) = L at hfin
              split at hfin
              · rename_i hc
                obtain ⟨⟨hcl, hid⟩, htk⟩ := hc
                obtain ⟨hnd, hex, hclo⟩ := closed0_iff hcl
                cases hfin
                refine ⟨Gsub G' L, Z2, rfl, sub_stp (fun id h => bn_new h) hn0 hnd htk (hst'.trans f2s), f2.inv.sub hnd (fun id ob _ ho => ho) hex hclo, Rep.ren (fun i x hi hx => ?_) hv3⟩
                have := List.all_eq_true.1 hid i hi
                rw [gsub_idx (by simpa using this)]; exact hx
              · cases hfin
            · cases hfin
          · cases hfin
        cases ex with
        | ext i => exact absurd rfl (hne i)
        | nor =>
          cases e <;> simp only [exM] at he
          exact ⟨body.1, by obtain ⟨_, v, h1, h2⟩ := body; exact ⟨v, h1, h2⟩⟩
        | ret =>
          cases e <;> simp only [exM] at he
          exact ⟨body.1, by obtain ⟨_, v, h1, h2⟩ := body; exact ⟨v, h1, h2⟩⟩
      split at h
      · cases h
      · rename_i ex tm hp hne hx
        exact tail hx hne h
      · cases h
    · cases h
  · cases h
theorem callF_sound (hB : ES P M.GL M.bn base) (hF : OkF P M.okF) (hm : P.follows .mixedOrders = true) : ∀ n, ES P M.GL M.bn (callF P M base fu hint n)
  | 0 => hB
  | n + 1 => by
    intro f args objs r objs' h w G Z vs hI hr
    rw [callF] at h
    simp only at h
    split at h
    · rename_i r' hb
      cases h
      exact hB f args objs _ _ hb w G Z vs hI hr
    · exact runF_sound (envZ_sound (fun f n h => bn_arg f n h) (callF_sound hB hF hm n)) hF hm f args objs r objs' h w G Z vs hI hr
end
end Go.Eng
end
