/-
  A machine on plain data, thirty: a region whose operation p leaves it, in any order.
-/
import Derived.Test.YtbmjdelpgkilcaaE6
set_option linter.unusedVariables false
section
set_option linter.unusedVariables false
set_option linter.unusedSimpArgs false
namespace Go.Eng
open Go.RowKit
def runL (P : Program) (M : Prm) (env : EnvT) (ops : Array Oper) (dms : List Nat) : List Oper → List TV → List Ob → List Lg → Option (List TV × List Ob × List Lg)
  | [], tm, hp, log => some (tm, hp, log)
  | o :: os, tm, hp, log => match stepT P M env ops tm hp o with
    | some (t, hp', R, W) => if chk (dms.getD log.length 0) log ⟨o.dst, lookT ops o, R, W ||| newM hp.length hp'.length⟩ = true then runL P M env ops dms os (putT tm o.dst t) hp' (log ++ [⟨o.dst, lookT ops o, R, W ||| newM hp.length hp'.length⟩]) else none
    | none => none
theorem run_seqL {P : Program} {M : Prm} {env : EnvT} {ops : Array Oper} {dms : List Nat} : ∀ (rest : List Oper) {i : Nat} {tm : List TV} {hp : List Ob} {log : List Lg} {tm' : List TV} {hp' : List Ob} {log' : List Lg}, runL P M env ops dms rest tm hp log = some (tm', hp', log') → log.length = i → (∀ k o, rest[k]? = some o → ops[i + k]? = some o) →
    ∃ tq hq lq rq, tq i = tm ∧ hq i = hp ∧ (∀ k, k < i → lq k = log.getD k ⟨none, [], 0, 0⟩) ∧ tq (i + rest.length) = tm' ∧ hq (i + rest.length) = hp' ∧ (log'.length = i + rest.length ∧ ∀ k, k < i + rest.length → lq k = log'.getD k ⟨none, [], 0, 0⟩) ∧ Seq P M env ops dms (i + rest.length) tq hq lq rq i
  | [], i, tm, hp, log, tm', hp', log', h, hl, hr => by
    cases h
    exact ⟨fun _ => tm, fun _ => hp, fun k => log.getD k ⟨none, [], 0, 0⟩, fun _ => (.bad, 0), rfl, rfl, fun _ _ => rfl, rfl, rfl, ⟨hl, fun _ _ => rfl⟩, ⟨fun k o h1 h2 => by simp at h2; omega, fun k j h1 h2 => by simp at h2; omega⟩⟩
  | o :: os, i, tm, hp, log, tm', hp', log', h, hl, hr => by
    rw [runL] at h
    split at h
    · rename_i t hp1 R W hst
      split at h
      · rename_i hck
        obtain ⟨tq, hq, lq, rq, h1, h2, h3, h4, h5, ⟨h7, h8⟩, h6⟩ := run_seqL os (i := i + 1) h (by simp [hl]) (fun k o' ho' => by have := hr (k + 1) o' (by rwa [List.getElem?_cons_succ]); rwa [show i + (k + 1) = i + 1 + k by omega] at this)
        have hlen : i + (o :: os).length = i + 1 + os.length := by simp; omega
        have ho : ops[i]? = some o := by have := hr 0 o rfl; simpa using this
        have hli : lq i = ⟨o.dst, lookT ops o, R, W ||| newM hp.length hp1.length⟩ := by
          rw [h3 i (by omega), List.getD_eq_getElem?_getD, List.getElem?_append_right (by omega), hl, Nat.sub_self]; rfl
        refine ⟨fun k => if k ≤ i then tm else tq k, fun k => if k ≤ i then hp else hq k, lq, fun k => if k = i then (t, W) else rq k, by simp, by simp, fun k hk => ?_, by rw [hlen]; simp [h4]; omega, by rw [hlen]; simp [h5]; omega, by rw [hlen]; exact ⟨h7, h8⟩, ?_⟩
        · rw [h3 k (by omega), List.getD_eq_getElem?_getD, List.getElem?_append_left (by omega), ← List.getD_eq_getElem?_getD]
        · rw [hlen]
          refine ⟨fun k o' hk1 hk2 hok => ?_, fun k j hk1 hk2 hj hc => ?_⟩
          · by_cases e : k = i
            · subst e
              rw [ho] at hok; cases hok
              simp only [Nat.le_refl, if_true, show ¬ k + 1 ≤ k by omega, if_false, h1, h2, hli]
              exact ⟨hst, trivial, trivial⟩
            · have := h6.step k o' (by omega) hk2 hok
              simp only [show ¬ k ≤ i by omega, show ¬ k + 1 ≤ i by omega, if_false, if_neg e]
              exact this
          · by_cases e : k = i
            · subst e
              have hck := List.all_eq_true.1 hck j (List.mem_range.2 (by omega))
              rw [h3 j (by omega), List.getD_eq_getElem?_getD, List.getElem?_append_left (by omega), ← List.getD_eq_getElem?_getD, hli] at hc
              rw [hc] at hck
              rw [← hl]
              simpa using hck
            · exact h6.chk k j (by omega) hk2 hj hc
      · cases h
    · cases h
def cutOk (ops : Array Oper) (dms : List Nat) (p : Nat) (look : List Tmp) (log : List Lg) : Bool :=
  ((List.range log.length).all fun k => (decide ((log.getD k ⟨none, [], 0, 0⟩).W = 0) && !(match (log.getD k ⟨none, [], 0, 0⟩).dst with | some d => look.contains d | none => false)) || (dms.getD p 0).testBit k) && ((List.range ops.size).all fun k => decide (k ≤ p) || (dms.getD k 0).testBit p)
def cutAll (ops : Array Oper) (dms : List Nat) (p : Nat) : Bool := decide (p + 1 = ops.size) && (List.range p).all fun k => (dms.getD p 0).testBit k
section
variable {P : Program} {M : Prm} {env : EnvT} {ops : Array Oper}
theorem region_cut {G0 : Gh} {Z0 : Zn} {w0 : World} {a0 : Act} {tm tm' : List TV} {hp hp' : List Ob} {log : List Lg} {id p : Nat} {op : Oper} {Q : Exit → Act → World → Prop} (hE : ES P M.GL M.bn env) (hF : OkF P M.okF) (hm : P.follows .mixedOrders = true) (hac : acyT ops = true) (h0 : SR M G0 Z0 w0 a0 tm hp) (hop : ops[p]? = some op) (h : runL P M env ops (depM ops.toList []) (ops.toList.take p) tm hp [] = some (tm', hp', log)) (hck : cutOk ops (depM ops.toList []) p (lookT ops op) log = true)
    (hQ : ∀ a G Z w, Inv M.GL G Z w (HPl hp') → a.tmps.size = tm'.length → (∀ t y, (t ∈ lookT ops op ∨ ∀ k, k < p → (log.getD k ⟨none, [], 0, 0⟩).dst ≠ some t) → tm'[t]? = some y → Rep G Z w y (a.tmps.getD t undef)) → (cutAll ops (depM ops.toList []) p = true → SR M G Z w a tm' hp') → a.defers = a0.defers → Stp G0 G Z0 Z w0 w (TB M.ban) → wpOp P ops Q p (fun a w => cutAll ops (depM ops.toList []) p = true ∧ Q .normal a w) a w) : (Code.region id ops true).wp P Q a0 w0 := by
  have hps : p < ops.size := (Array.getElem?_eq_some_iff.1 hop).1
  obtain ⟨tq, hq, lq, rq, e1, e2, _, e4, e5, ⟨e6, e7⟩, hseq⟩ := run_seqL (ops.toList.take p) (i := 0) h rfl (fun k o hk => by
    rw [List.getElem?_take] at hk
    split at hk
    · simpa using hk
    · cases hk)
  rw [Nat.zero_add] at e4 e5 e6 e7 hseq
  have htl : (ops.toList.take p).length = p := by rw [List.length_take, Array.length_toList]; omega
  rw [htl] at e4 e5 e6 e7 hseq
  obtain ⟨n, hn⟩ : ∃ n, n = p := ⟨_, rfl⟩
  rw [← hn] at e4 e5 e6 e7 hseq
  have hnl : n < ops.size := by omega
  unfold cutOk at hck
  rw [Bool.and_eq_true] at hck
  have ck1 : ∀ k, k < n → ((lq k).W ≠ 0 ∨ ∃ d, (lq k).dst = some d ∧ d ∈ lookT ops op) → ((depM ops.toList []).getD p 0).testBit k = true := fun k hk hw => by
    have := List.all_eq_true.1 hck.1 k (List.mem_range.2 (by omega))
    rw [← e7 k hk, Bool.or_eq_true] at this
    refine this.resolve_left fun h1 => ?_
    rw [Bool.and_eq_true] at h1
    rcases hw with hw | ⟨d, hd, hd2⟩
    · exact hw (by simpa using h1.1)
    · have h2 := h1.2
      rw [hd] at h2
      simp [hd2] at h2
  have ck2 : ∀ k, p < k → k < ops.size → ((depM ops.toList []).getD k 0).testBit p = true := fun k hk hk2 => by
    have := List.all_eq_true.1 hck.2 k (List.mem_range.2 hk2)
    rw [Bool.or_eq_true] at this
    exact this.resolve_left fun h1 => by
      have : k ≤ p := by simpa using h1
      omega
  have opAt : ∀ k, k < n → ∃ o, ops[k]? = some o := fun k hk => ⟨_, Array.getElem?_eq_getElem (by omega)⟩
  have tlen : ∀ k, k ≤ n → (tq k).length = tm.length := by
    intro k
    induction k with
    | zero => intro _; rw [e1]
    | succ k ih =>
      intro hk
      obtain ⟨o, ho⟩ := opAt k (by omega)
      rw [(hseq.step k o (Nat.zero_le _) (by omega) ho).2.1, putT_len, ih (by omega)]
  have hext : ∀ k o, k < n → ops[k]? = some o → (hq k).length ≤ (hq (k + 1)).length ∧ ∀ x, ¬ (lq k).W.testBit x = true → (hq (k + 1))[x]? = (hq k)[x]? := fun k o hk ho => by
    obtain ⟨s1, _, s3⟩ := hseq.step k o (Nat.zero_le _) hk ho
    obtain ⟨x1, x2⟩ := step_ext s1
    refine ⟨x1, fun x hx => ?_⟩
    rw [s3] at hx
    simp only [Nat.testBit_or, Bool.or_eq_true, not_or] at hx
    by_cases hlt : x < (hq k).length
    · exact x2 x hlt (by simpa using hx.1)
    · have h3 : ¬ x < (hq (k + 1)).length := fun h3 => hx.2 ((newM_iff x1).2 ⟨by omega, h3⟩)
      rw [List.getElem?_eq_none (by omega), List.getElem?_eq_none (by omega)]
  have hstab : ∀ x p q, p ≤ q → q ≤ n → (∀ i, p ≤ i → i < q → ¬ (lq i).W.testBit x = true) → (hq q)[x]? = (hq p)[x]? := by
    intro x p q hpq
    induction q with
    | zero =>
      intro _ _
      obtain rfl : p = 0 := by omega
      rfl
    | succ q ih =>
      intro hqn hw
      by_cases e : p = q + 1
      · subst e; rfl
      · obtain ⟨o, ho⟩ := opAt q (by omega)
        rw [(hext q o (by omega) ho).2 x (hw q (by omega) (by omega)), ih (by omega) (by omega) (fun i h1 h2 => hw i h1 (by omega))]
  have tstab : ∀ t p q, p ≤ q → q ≤ n → (∀ i, p ≤ i → i < q → ¬ (lq i).dst = some t) → (tq q)[t]? = (tq p)[t]? := by
    intro t p q hpq
    induction q with
    | zero =>
      intro _ _
      obtain rfl : p = 0 := by omega
      rfl
    | succ q ih =>
      intro hqn hw
      by_cases e : p = q + 1
      · subst e; rfl
      · obtain ⟨o, ho⟩ := opAt q (by omega)
        obtain ⟨_, s2, s3⟩ := hseq.step q o (Nat.zero_le _) (by omega) ho
        have hd : o.dst ≠ some t := fun e => hw q (by omega) (by omega) (by rw [s3]; exact e)
        rw [s2, ← ih (by omega) (by omega) (fun i h1 h2 => hw i h1 (by omega))]
        cases hod : o.dst with
        | none => rfl
        | some d =>
          rw [hod] at hd
          exact List.getElem?_set_ne (fun e => hd (by rw [e]))
  have hmono : ∀ p q, p ≤ q → q ≤ n → (hq p).length ≤ (hq q).length := by
    intro p q hpq
    induction q with
    | zero =>
      intro _
      obtain rfl : p = 0 := by omega
      exact Nat.le_refl _
    | succ q ih =>
      intro hqn
      by_cases e : p = q + 1
      · subst e; exact Nat.le_refl _
      · obtain ⟨o, ho⟩ := opAt q (by omega)
        exact Nat.le_trans (ih (by omega) (by omega)) (hext q o (by omega) ho).1
  refine wp_region_any hm (wpAny_inv (fun listed a w => (cutAll ops (depM ops.toList []) p = true ∧ (∀ k, k < ops.size → listed.getD k false = true) ∧ Q .normal a w) ∨ (listed.size = ops.size ∧ (∀ k, n ≤ k → listed.getD k false = false) ∧ (∀ j o e, listed.getD j false = true → ops[j]? = some o → e ∈ o.after → Region.binds .any e = true → listed.getD e.on false = true) ∧ a.tmps.size = tm.length ∧ a.defers = a0.defers ∧ ∃ G Z, Inv M.GL G Z w (fun x ob => ∃ m, Vd n (fun i => (lq i).W.testBit x = true) (fun i => listed.getD i false = true) m ∧ (hq m)[x]? = some ob) ∧ (∀ t m y, Vd n (fun i => (lq i).dst = some t) (fun i => listed.getD i false = true) m → (tq m)[t]? = some y → Rep G Z w y (a.tmps.getD t undef)) ∧ Stp G0 G Z0 Z w0 w (TB M.ban))) ?_ ?_ ops.size (List.range ops.size) _ a0 _ (fun i hi _ => List.mem_range.2 hi) (by simp) ?_)
  · rintro listed a w (hlq | ⟨hsz, hfr, hcl, hs, hdf, G, Z, hI, hT, hst⟩) hr
    · exact hlq.2.2
    have hall : ∀ k, k < ops.size → listed.getD k false = true := by
      intro k
      induction k using Nat.strongRecOn with
      | _ k ih =>
        intro hk
        cases hb : listed.getD k false with
        | true => rfl
        | false =>
          have ho : ops[k]? = some ops[k] := Array.getElem?_eq_getElem hk
          have : k ∈ Region.ready .any ops listed := mem_ready.2 ⟨by
            have hlt : k < listed.size := by omega
            rw [Array.getD_eq_getD_getElem?, Array.getElem?_eq_getElem hlt] at hb ⊢
            exact hb, _, ho, fun e he hbe => by
            have := List.all_eq_true.1 hac k (List.mem_range.2 (by omega))
            rw [ho] at this
            have := List.all_eq_true.1 this e (by simpa using he)
            rw [hbe] at this
            have hlt : e.on < k := by simpa using this
            exact ih e.on hlt (by omega)⟩
          rw [hr] at this; cases this
    have := hall n hnl
    rw [hfr n (Nat.le_refl _)] at this
    cases this
  · rintro listed a w j (hlq | ⟨hsz, hfr, hcl, hs, hdf, G, Z, hI, hT, hst⟩) hr
    · exfalso
      obtain ⟨hj, hj0, _⟩ := ready_mem hr
      have := hlq.2.1 j hj
      rw [Array.getD_eq_getD_getElem?] at hj0 this
      cases hg : listed[j]? with
      | none => rw [hg] at this; cases this
      | some y => rw [hg] at hj0 this; rw [Option.getD_some] at hj0 this; rw [hj0] at this; cases this
    obtain ⟨hj, hj0, o, ho, hjd⟩ := ready_mem hr
    have hjp : ¬ n < j := fun hlt => by
      have := dep_done (S := fun i => listed.getD i false = true) hac hcl j o n ho hjd (by have := ck2 j (by omega) hj; rw [hn]; exact this)
      rw [hfr n (Nat.le_refl _)] at this
      cases this
    have hI0 : ∀ (t : Nat) (m : Nat), (∀ i, i < n → (lq i).dst = some t → listed.getD i false = true) → Vd n (fun i => (lq i).dst = some t) (fun i => listed.getD i false = true) n := fun t m hd => ⟨Nat.le_refl _, hd, fun i h1 h2 => by omega⟩
    by_cases hjn : j = n
    · subst hjn
      rw [hn, hop] at ho
      cases ho
      have depP : ∀ k, k < j → ((lq k).W ≠ 0 ∨ ∃ d, (lq k).dst = some d ∧ d ∈ lookT ops op) → listed.getD k false = true := fun k hk hw => dep_done (S := fun i => listed.getD i false = true) hac hcl j op k (by rw [hn]; exact hop) hjd (by have := ck1 k hk hw; rw [hn]; exact this)
      have vdW : ∀ x, Vd j (fun i => (lq i).W.testBit x = true) (fun i => listed.getD i false = true) j := fun x => ⟨Nat.le_refl _, fun i hi hw => depP i hi (.inl fun e => by have hw : (lq i).W.testBit x = true := hw; rw [e, Nat.zero_testBit] at hw; cases hw), fun i h1 h2 => by omega⟩
      have hI' : Inv M.GL G Z w (HPl hp') := inv_imp hI (fun x ob hx => ⟨j, vdW x, by rw [e5]; exact hx⟩) (fun x ob hx => by
        obtain ⟨m, hv, hx⟩ := hx
        refine ⟨ob, ?_⟩
        show hp'[x]? = some ob
        rw [← e5, ← hx]
        refine hstab x m j hv.1 (Nat.le_refl _) fun i h1 h2 hw => hv.2.2 i h1 h2 ?_ hw
        exact (vdW x).2.1 i h2 hw)
      have hsz' : a.tmps.size = tm'.length := by rw [hs, ← e4, tlen j (Nat.le_refl _)]
      have hT' : ∀ t y, (t ∈ lookT ops op ∨ ∀ k, k < j → (lq k).dst ≠ some t) → tm'[t]? = some y → Rep G Z w y (a.tmps.getD t undef) := fun t y ht hy => by
        refine hT t j y ⟨Nat.le_refl _, fun i hi hd => ?_, fun i h1 h2 => by omega⟩ (by rw [e4]; exact hy)
        rcases ht with ht | ht
        · exact depP i hi (.inr ⟨t, hd, ht⟩)
        · exact absurd hd (ht i hi)
      have hall : cutAll ops (depM ops.toList []) p = true → p + 1 = ops.size ∧ ∀ k, k < j → listed.getD k false = true := fun hca => by
        unfold cutAll at hca
        rw [Bool.and_eq_true] at hca
        refine ⟨by simpa using hca.1, fun k hk => dep_done (S := fun i => listed.getD i false = true) hac hcl j op k (by rw [hn]; exact hop) hjd ?_⟩
        have := List.all_eq_true.1 hca.2 k (List.mem_range.2 (by omega))
        rw [hn]; exact this
      have hw := hQ a G Z w hI' hsz' (fun t y ht hy => hT' t y (ht.imp (fun h => h) fun h k hk => by rw [e7 k hk]; exact h k (by omega)) hy) (fun hca => ⟨hI', hsz', fun t y hy => hT t j y ⟨Nat.le_refl _, fun i hi _ => (hall hca).2 i hi, fun i h1 h2 => by omega⟩ (by rw [e4]; exact hy)⟩) hdf hst
      rw [← hn] at hw
      refine wpOp_mono (fun a' w' hk => .inl ⟨by rw [← hn]; exact hk.1, fun k hk2 => ?_, hk.2⟩) hw
      obtain ⟨hz1, hz2⟩ := hall (by rw [← hn]; exact hk.1)
      have hlt : j < listed.size := by omega
      rw [Array.getD_eq_getD_getElem?, Array.getElem?_setIfInBounds]
      by_cases e : j = k
      · subst e; simp [hlt]
      · rw [if_neg e, ← Array.getD_eq_getD_getElem?]
        exact hz2 k (by omega)
    have hjn : j < n := by omega
    have hSj : ¬ listed.getD j false = true := by
      have hlt : j < listed.size := by omega
      rw [Array.getD_eq_getD_getElem?, Array.getElem?_eq_getElem hlt] at hj0 ⊢
      rw [Option.getD_some] at hj0 ⊢
      rw [hj0]; simp
    obtain ⟨s1, s2, s3⟩ := hseq.step j o (Nat.zero_le _) hjn ho
    have dep1 : ∀ i, i < j → conf (lq i) (lq j) = true → listed.getD i false = true := fun i hi hc => dep_done (S := fun i => listed.getD i false = true) hac hcl j o i ho hjd (hseq.chk j i (Nat.zero_le _) hjn hi hc)
    have dep2 : ∀ i, j < i → i < n → conf (lq j) (lq i) = true → listed.getD i false = true → listed.getD j false = true := fun i hi hin hc hSi => by
      obtain ⟨o', ho'⟩ := opAt i hin
      exact dep_done (S := fun i => listed.getD i false = true) hac hcl i o' j ho' (fun e he hb => hcl i o' e hSi ho' he hb) (hseq.chk i j (Nat.zero_le _) hin hi hc)
    have vdO : ∀ x, ((lq j).R.testBit x = true ∨ (lq j).W.testBit x = true) → Vd n (fun i => (lq i).W.testBit x = true) (fun i => listed.getD i false = true) j := fun x hx => vd_at hjn (fun i hi hw => dep1 i hi (conf_w hw hx)) (fun i hi hin hSi hw => hSj (dep2 i hi hin (hx.elim (fun h => conf_r h hw) (fun h => conf_w h (.inr hw))) hSi)) hSj
    have vdT : ∀ t, t ∈ lookT ops o → Vd n (fun i => (lq i).dst = some t) (fun i => listed.getD i false = true) j := fun t ht => by
      have ht' : t ∈ (lq j).look := by rw [s3]; exact ht
      exact vd_at hjn (fun i hi hw => dep1 i hi (conf_d hw (.inl ht'))) (fun i hi hin hSi hw => hSj (dep2 i hi hin (conf_l ht' hw) hSi)) hSj
    have hTj : ∀ t y, t ∈ lookT ops o → (tq j)[t]? = some y → Rep G Z w y (a.tmps.getD t undef) := fun t y ht hy => hT t j y (vdT t ht) hy
    have hs' : a.tmps.size = (tq j).length := by rw [hs, tlen j (Nat.le_of_lt hjn)]
    have S' : ∀ k, (listed.setIfInBounds j true).getD k false = true ↔ (listed.getD k false = true ∨ k = j) := fun k => by
      have hlt : j < listed.size := by omega
      rw [Array.getD_eq_getD_getElem?, Array.getD_eq_getD_getElem?, Array.getElem?_setIfInBounds]
      by_cases e : j = k
      · subst e; simp [hlt]
      · simp only [if_neg e]
        constructor
        · exact .inl
        · rintro (h | h)
          · exact h
          · exact absurd h.symm e
    have SS : (fun k => (listed.setIfInBounds j true).getD k false = true) = (fun k => listed.getD k false = true ∨ k = j) := funext fun k => propext (S' k)
    have hcl' : ∀ j' o' e, (listed.setIfInBounds j true).getD j' false = true → ops[j']? = some o' → e ∈ o'.after → Region.binds .any e = true → (listed.setIfInBounds j true).getD e.on false = true := fun j' o' e h1 h2 h3 h4 => by
      rcases (S' j').1 h1 with h1 | rfl
      · exact (S' _).2 (.inl (hcl j' o' e h1 h2 h3 h4))
      · rw [ho] at h2; cases h2
        exact (S' _).2 (.inl (hjd e h3 h4))
    have freshJ : ∀ x, (hq j).length ≤ x → x < (hq (j + 1)).length → G x = none := fun x hx1 hx2 => by
      cases hg : G x with
      | none => rfl
      | some i =>
        exfalso
        obtain ⟨ob, m, hv, hob⟩ := hI.dom x i hg
        have hw : (lq j).W.testBit x = true := by
          rw [s3]
          simp only [Nat.testBit_or, Bool.or_eq_true]
          exact .inr ((newM_iff (hext j o hjn ho).1).2 ⟨hx1, hx2⟩)
        have hm1 := (List.getElem?_eq_some_iff.1 hob).1
        have hjm : j < m := Nat.lt_of_not_le fun hle => by
          have := hmono m j hle (Nat.le_of_lt hjn); omega
        exact hSj (hv.2.1 j hjm hw)
    have hliv : Liv (fun x ob => ∃ m, Vd n (fun i => (lq i).W.testBit x = true) (fun i => listed.getD i false = true) m ∧ (hq m)[x]? = some ob) G (TT (rq j).2 (hq j).length (hq (j + 1)).length) := fun x i hT hi => by
      rcases hT with hT | ⟨h1, h2⟩
      · obtain ⟨ob, h1, h2⟩ := step_live s1 x hT
        exact ⟨ob, ⟨j, vdO x (.inr (by rw [s3]; simp only [Nat.testBit_or, Bool.or_eq_true]; exact .inl hT)), h1⟩, h2⟩
      · rw [freshJ x h1 h2] at hi; cases hi
    have finish : ∀ {v : Value} {G' : Gh} {Z' : Zn} {w' : World}, Res G Z w (hq j).length (hq (j + 1)) (rq j).2 (rq j).1 G' Z' w' v → (listed.setIfInBounds j true).size = ops.size ∧ (∀ k, n ≤ k → (listed.setIfInBounds j true).getD k false = false) ∧ (∀ j' o' e, (listed.setIfInBounds j true).getD j' false = true → ops[j']? = some o' → e ∈ o'.after → Region.binds .any e = true → (listed.setIfInBounds j true).getD e.on false = true) ∧ (a.put o.dst v).tmps.size = tm.length ∧ (a.put o.dst v).defers = a0.defers ∧ ∃ G Z, Inv M.GL G Z w' (fun x ob => ∃ m, Vd n (fun i => (lq i).W.testBit x = true) (fun i => (listed.setIfInBounds j true).getD i false = true) m ∧ (hq m)[x]? = some ob) ∧ (∀ t m y, Vd n (fun i => (lq i).dst = some t) (fun i => (listed.setIfInBounds j true).getD i false = true) m → (tq m)[t]? = some y → Rep G Z w' y ((a.put o.dst v).tmps.getD t undef)) ∧ Stp G0 G Z0 Z w0 w' (TB M.ban) := by
      intro v G' Z' w' res
      refine ⟨by simp [hsz], fun k hk => by
        have hne : j ≠ k := by omega
        rw [Array.getD_eq_getD_getElem?, Array.getElem?_setIfInBounds_ne hne, ← Array.getD_eq_getD_getElem?]
        exact hfr k hk, hcl', by rw [Act.put_size, hs], by rw [Act.put_defs, hdf], G', Z', ?_, ?_, hst.trans (res.stp.mono (step_ban s1))⟩
      · rw [SS]
        have hTW : ∀ x, TT (rq j).2 (hq j).length (hq (j + 1)).length x ↔ (lq j).W.testBit x = true := fun x => by
          rw [s3]
          simp only [Nat.testBit_or, Bool.or_eq_true]
          rw [newM_iff (hext j o hjn ho).1]
          rfl
        refine inv_imp (hI.next hliv res) (fun x ob hx => ?_) (fun x ob hx => ?_)
        · obtain ⟨m, hv, hx⟩ := hx
          by_cases hw : (lq j).W.testBit x = true
          · obtain ⟨h1, h2⟩ := vd_on hjn hSj (fun i hi hin hwi hSi => dep2 i hi hin (conf_w hw (.inr hwi)) hSi) hw hv
            refine .inl ⟨(hTW x).2 hw, ?_⟩
            rw [← hstab x (j + 1) m h1 hv.1 (fun i h3 h4 => h2 i h3 h4)]
            exact hx
          · exact .inr ⟨fun e => hw ((hTW x).1 e), m, vd_off hw hv, hx⟩
        · rcases hx with ⟨h1, h2⟩ | ⟨h1, m, hv, hx⟩
          · have hw := (hTW x).1 h1
            exact ⟨ob, j + 1, vd_new hjn (fun i hi hwi => dep1 i hi (conf_w hwi (.inr hw))) hSj (fun i hi hin hwi hSi => dep2 i hi hin (conf_w hw (.inr hwi)) hSi) hw, h2⟩
          · exact ⟨ob, m, vd_keep (fun e => h1 ((hTW x).2 e)) hv, hx⟩
      · rw [SS]
        intro t m y hv hy
        by_cases hw : (lq j).dst = some t
        · obtain ⟨h1, h2⟩ := vd_on hjn hSj (fun i hi hin hwi hSi => dep2 i hi hin (conf_d hw (.inr hwi)) hSi) hw hv
          rw [tstab t (j + 1) m h1 hv.1 (fun i h3 h4 => h2 i h3 h4), s2] at hy
          have hod : o.dst = some t := by rw [s3] at hw; exact hw
          rw [hod] at hy ⊢
          have hlt : t < (tq j).length := by
            have := (List.getElem?_eq_some_iff.1 hy).1
            simpa [putT] using this
          have : (putT (tq j) (some t) (rq j).1)[t]? = some (rq j).1 := List.getElem?_set_self hlt
          rw [this] at hy; cases hy
          rw [Act.put_self (show t < a.tmps.size by rw [hs']; exact hlt)]
          exact res.rep
        · have hod : o.dst ≠ some t := fun e => hw (by rw [s3]; exact e)
          rw [Act.put_get hod]
          exact (hT t m y (vd_off hw hv) hy).keep res.stp.gle res.stp.kp
    unfold wpOp
    rw [ho]
    simp only
    rcases step_op s1 with ⟨hwt, s1', _⟩ | ⟨hwt, s1'⟩
    · rw [want_rep hs' hTj hwt, if_pos rfl]
      refine .inl (op_sound hE hF hI s1' (fun x hx => eval_rep hI.glo hs' fun t y e hy => hTj t y (mem_look (e ▸ hx)) hy) ?_ ?_ fun v G' Z' w' res => .inr (finish res))
      · exact freshJ
      · intro x ob hx hob
        refine ⟨j, vdO x ?_, hob⟩
        rw [s3]
        simp only [Nat.testBit_or, Bool.or_eq_true] at hx ⊢
        exact hx.imp (fun h => h) .inl
    · rw [want_rep hs' hTj hwt]
      simp only [Bool.false_eq_true, if_false]
      simp only [Prod.mk.injEq] at s1'
      obtain ⟨t1, t2, t3, t4⟩ := s1'
      refine .inr (finish (G' := G) (Z' := Z) ?_)
      rw [t1, t2, t4]
      exact res_pure hI (rep_lf.2 rfl)
  · have hz : ∀ k, (Array.replicate ops.size false).getD k false = false := fun k => by
      simp only [Array.getD_eq_getD_getElem?, Array.getElem?_replicate]; split <;> rfl
    have hkp : Kp Z0 Z0 w0 { w0 with drawn := w0.drawn + 1 } := ⟨fun _ _ h => h, fun _ _ _ => rfl⟩
    have hb : Below w0.heap.size w0 { w0 with drawn := w0.drawn + 1 } := ⟨rfl, rfl, rfl, Nat.le_refl _, fun _ _ => rfl⟩
    have hst : Stp G0 G0 Z0 Z0 w0 { w0 with drawn := w0.drawn + 1 } (TB M.ban) := ⟨Gle.refl _, fun _ _ h => h, hkp, hb.mono (Nat.zero_le _), fun b hb' _ => hb.block b hb', fun id i b h1 h2 => .inr ⟨id, i, .inr rfl, h1, h2⟩, fun _ _ h => .inl h, h0.inv.zlt⟩
    refine .inr ⟨by simp, fun k _ => hz k, fun j o e h1 => (by rw [hz] at h1; cases h1), h0.siz, rfl, G0, Z0, ?_, ?_, hst⟩
    · have hI : Inv M.GL G0 Z0 { w0 with drawn := w0.drawn + 1 } (HPl hp) := ⟨fun x ob hx => ?_, h0.inv.free, h0.inv.dist, h0.inv.dom, h0.inv.zlt, h0.inv.glo.keep hkp⟩
      · refine inv_imp hI (fun x ob hx => ?_) (fun x ob hx => ⟨ob, 0, ⟨Nat.zero_le _, fun i hi => by omega, fun i _ _ hS => by have hS : (Array.replicate ops.size false).getD _ false = true := hS; rw [hz] at hS; cases hS⟩, by rw [e2]; exact hx⟩)
        obtain ⟨m, hv, hx⟩ := hx
        show hp[x]? = some ob
        rw [← e2, ← hx]
        exact (hstab x 0 m (Nat.zero_le _) hv.1 fun i _ h2 hw => by have this : (Array.replicate ops.size false).getD i false = true := hv.2.1 i h2 hw; rw [hz] at this; cases this).symm
      · have := h0.inv.good x ob hx
        cases ob with
        | vr e cs =>
          obtain ⟨g, vs, k1, k2, k3, k4⟩ := this
          exact ⟨g, vs, k1, k2, k3.keep (Gle.refl _) hkp, k4⟩
        | ro e sz c cs fz =>
          obtain ⟨v, cells, k1, k2, k3, k4, k5⟩ := this
          exact ⟨v, cells, k1, k2, k3, k4.keep (Gle.refl _) hkp, k5⟩
        | ot m => exact this
    · intro t m y hv hy
      rw [tstab t 0 m (Nat.zero_le _) hv.1 (fun i _ h2 hw => by have this : (Array.replicate ops.size false).getD i false = true := hv.2.1 i h2 hw; rw [hz] at this; cases this), e1] at hy
      exact (h0.tmp t y hy).keep (Gle.refl _) hkp
end
end Go.Eng
end
