/-
  A machine on plain data, twenty-three: rounds.
-/
import Derived.Test.YtjgkocijmbepmaaGreatDoorE8
set_option linter.unusedVariables false
section
set_option linter.unusedVariables false
set_option linter.unusedSimpArgs false
namespace Go.Eng
abbrev Cl := List TV → List Ob → Option (List TV × List Ob)
abbrev Bd := List TV → List Ob → XR
def rnd (cl : Cl) (body : Bd) (tm : List TV) (hp : List Ob) : XR := match body tm hp with
  | some (.nor, t, h) => (match cl t h with | some (t', h') => some (.nor, t', h') | none => none)
  | x => x
def itc (cl : Cl) (body : Bd) : Nat → List TV → List Ob → XR
  | 0, _, _ => none
  | k + 1, tm, hp => match rnd cl body tm hp with
    | some (.nor, t, h) => itc cl body k t h
    | x => x
theorem itc_nor {cl : Cl} {body : Bd} {k : Nat} {tm t : List TV} {hp h : List Ob} (hr : rnd cl body tm hp = some (.nor, t, h)) : itc cl body (k + 1) tm hp = itc cl body k t h := by rw [itc, hr]
theorem itc_ext {cl : Cl} {body : Bd} {k i : Nat} {tm t : List TV} {hp h : List Ob} (hr : rnd cl body tm hp = some (.ext i, t, h)) : itc cl body (k + 1) tm hp = some (.ext i, t, h) := by rw [itc, hr]
theorem itc_ret {cl : Cl} {body : Bd} {k : Nat} {tm t : List TV} {hp h : List Ob} (hr : rnd cl body tm hp = some (.ret, t, h)) : itc cl body (k + 1) tm hp = some (.ret, t, h) := by rw [itc, hr]
theorem iter_of {cl : Cl} {body : Bd} : ∀ {k : Nat} {tm t : List TV} {hp h : List Ob} {r : Ex × List TV × List Ob}, cl tm hp = some (t, h) → itc cl body k t h = some r → iter cl body k tm hp = some r
  | 0, tm, t, hp, h, r, _, hi => by cases hi
  | k + 1, tm, t, hp, h, r, hc, hi => by
    rw [iter, hc]
    rw [itc] at hi
    unfold rnd at hi
    simp only
    rcases hb : body t h with _ | ⟨e, t2, h2⟩
    · rw [hb] at hi; cases hi
    · rw [hb] at hi
      cases e with
      | nor =>
        simp only at hi ⊢
        rcases hc2 : cl t2 h2 with _ | ⟨t3, h3⟩
        · rw [hc2] at hi; cases hi
        · rw [hc2] at hi
          exact iter_of hc2 hi
      | ext i => exact hi
      | ret => exact hi
def bod (P : Program) (M : Prm) (env : EnvT) (fu n0 : Nat) (hint : Nat → Option Hint) (b : Nat) (c : Code) : Bd := exec P M env fu n0 hint b c
section
variable {P : Program} {M : Prm} {env : EnvT} {fu n0 : Nat} {hint : Nat → Option Hint} {b : Nat} {tm : List TV} {hp : List Ob}
theorem ex_skip : exec P M env fu n0 hint b .skip tm hp = some (.nor, tm, hp) := rfl
theorem ex_plain {id : Nat} {ops : Array Oper} : exec P M env fu n0 hint b (.region id ops false) tm hp = (runS P M env ops ops.toList tm hp).map fun s => (.nor, s.1, s.2) := rfl
theorem ex_drawn {id : Nat} {ops : Array Oper} : exec P M env fu n0 hint b (.region id ops true) tm hp = if acyT ops = true then (runD P M env ops (depM ops.toList []) ops.toList tm hp []).map fun s => (.nor, s.1, s.2) else none := rfl
theorem ex_seq {x y : Code} : exec P M env fu n0 hint b (.seq x y) tm hp = match exec P M env fu n0 hint b x tm hp with
    | some (.nor, tm1, hp1) => exec P M env fu n0 hint b y tm1 hp1
    | r => r := rfl
theorem ex_cond {c : Operand} {x y : Code} : exec P M env fu n0 hint b (.cond c x y) tm hp = match evT M.GL tm c with
    | .lf (.bool true) => exec P M env fu n0 hint b x tm hp
    | .lf (.bool false) => exec P M env fu n0 hint b y tm hp
    | _ => none := rfl
theorem ex_block {id : Nat} {c : Code} : exec P M env fu n0 hint b (.block id c) tm hp = match exec P M env fu n0 hint id c tm hp with
    | some (.ext i, tm1, hp1) => if i = id then some (.nor, tm1, hp1) else some (.ext i, tm1, hp1)
    | r => r := rfl
theorem ex_scope {c : Code} : exec P M env fu n0 hint b (.scope c) tm hp = exec P M env fu n0 hint b c tm hp := rfl
theorem ex_loop {c : Code} : exec P M env fu n0 hint b (.loop c) tm hp = iter (clean n0 (hint b)) (bod P M env fu n0 hint b c) fu tm hp := rfl
theorem ex_exit {id : Nat} : exec P M env fu n0 hint b (.exit id) tm hp = some (.ext id, tm, hp) := rfl
theorem ex_label {l : Nat} : exec P M env fu n0 hint b (.label l) tm hp = some (.nor, tm, hp) := rfl
theorem ex_ret : exec P M env fu n0 hint b .ret tm hp = some (.ret, tm, hp) := rfl
end
end Go.Eng
end

section
set_option linter.unusedVariables false
set_option linter.unusedSimpArgs false
namespace Go.Eng
open Go.RowKit
def ix1 (P : Program) (hp : List Ob) (t : TypeId) (X I : TV) : AR := match lfo X, lfo I with
  | some a, some b => out1 hp (prS P (Instr.index t a b))
  | _, _ => none
def ln1 (P : Program) (hp : List Ob) (ats : Array TypeId) (ty : TypeId) (X : TV) : AR := match lfo X with
  | some a => out1 hp (prS P (Builtin.len_ ats ty #[a]))
  | none => none
def lfoO : Option TV → Option (Option Value)
  | none => some none
  | some X => (lfo X).map some
def sl1 (P : Program) (hp : List Ob) (t : TypeId) (X : TV) (lo hi mx : Option TV) : AR := match lfo X, lfoO lo, lfoO hi, lfoO mx with
  | some a, some l, some h, some m => out1 hp (prS P (Instr.sliceAt t a l h m))
  | _, _, _, _ => none
section
variable {P : Program} {GL : Nat → Option (List Dt)} {tm : List TV} {hp : List Ob} {d : Option Tmp} {ty : TypeId} {p : String} {af : Array Edge} {g : Option (Nat × Bool)}
theorem pure_index (t : TypeId) (x y : Operand) : absPure P GL tm hp ⟨d, .index t x y, ty, p, af, g⟩ = ix1 P hp t (evT GL tm x) (evT GL tm y) := by
  unfold absPure ix1
  simp only [Op.operands, List.all_cons, List.all_nil, Bool.and_true, Bool.and_eq_true]
  rcases hx : lfo (evT GL tm x) with _ | a
  · simp
  · rcases hy : lfo (evT GL tm y) with _ | b
    · simp
    · simp only [Option.isSome_some, and_self, if_true]
      unfold execOp rhoT
      simp only [hx, hy, Option.getD_some]
      rw [prS_bind]
      rcases prS P (Instr.index t a b) with _ | v <;> rfl
theorem len_op (r : Operand → Value) (ats : Array TypeId) (x : Operand) : execOp r ⟨d, .call { callee := .builtin .len, args := #[x], argTypes := ats }, ty, p, af, g⟩ = (do let v ← Builtin.len_ ats ty #[r x]; pure (.value v)) := by
  simp [execOp, resolve, invoke, builtin]
theorem pure_len (ats : Array TypeId) (x : Operand) : absPure P GL tm hp ⟨d, .call { callee := .builtin .len, args := #[x], argTypes := ats }, ty, p, af, g⟩ = ln1 P hp ats ty (evT GL tm x) := by
  unfold absPure ln1
  rw [len_op]
  have e : (Op.operands (.call { callee := .builtin .len, args := #[x], argTypes := ats })).toList = [x] := by simp [Op.operands, Call.operands]
  simp only [e, List.all_cons, List.all_nil, Bool.and_true]
  rcases hx : lfo (evT GL tm x) with _ | a
  · simp
  · simp only [Option.isSome_some, if_true]
    unfold rhoT
    simp only [hx, Option.getD_some]
    rw [prS_bind]
    rcases prS P (Builtin.len_ ats ty #[a]) with _ | v <;> rfl
theorem pure_slice (t : TypeId) (x : Operand) (lo hi mx : Option Operand) : absPure P GL tm hp ⟨d, .slice t x lo hi mx, ty, p, af, g⟩ = sl1 P hp t (evT GL tm x) (lo.map (evT GL tm)) (hi.map (evT GL tm)) (mx.map (evT GL tm)) := by
  have key : ∀ q : Option Operand, (match q with | none => true | some y => (lfo (evT GL tm y)).isSome) = true → lfoO (q.map (evT GL tm)) = some (q.map (rhoT GL tm)) := fun q h => by
    cases q with
    | none => rfl
    | some y =>
      obtain ⟨a, ha⟩ := Option.isSome_iff_exists.1 h
      simp [lfoO, rhoT, ha]
  have key2 : ∀ q : Option Operand, (match q with | none => true | some y => (lfo (evT GL tm y)).isSome) = false → lfoO (q.map (evT GL tm)) = none := fun q h => by
    cases q with
    | none => cases h
    | some y => simpa [lfoO] using h
  have e : ((Op.operands (.slice t x lo hi mx)).toList.all fun x => (lfo (evT GL tm x)).isSome) = ((lfo (evT GL tm x)).isSome && (match lo with | none => true | some y => (lfo (evT GL tm y)).isSome) && (match hi with | none => true | some y => (lfo (evT GL tm y)).isSome) && (match mx with | none => true | some y => (lfo (evT GL tm y)).isSome)) := by
    cases lo <;> cases hi <;> cases mx <;> simp [Op.operands, Bool.and_assoc]
  unfold absPure sl1
  rw [e]
  rcases hx : lfo (evT GL tm x) with _ | a
  · simp
  · cases hl : (match lo with | none => true | some y => (lfo (evT GL tm y)).isSome) with
    | false => rw [key2 lo hl]; simp
    | true =>
      cases hh : (match hi with | none => true | some y => (lfo (evT GL tm y)).isSome) with
      | false => rw [key lo hl, key2 hi hh]; simp
      | true =>
        cases hm : (match mx with | none => true | some y => (lfo (evT GL tm y)).isSome) with
        | false => rw [key lo hl, key hi hh, key2 mx hm]; simp
        | true =>
          rw [key lo hl, key hi hh, key mx hm]
          simp only [Option.isSome_some, Bool.and_self, if_true]
          unfold execOp
          have : rhoT GL tm x = a := by simp [rhoT, hx]
          simp only [this]
          rw [prS_bind]
          rcases prS P (Instr.sliceAt t a (lo.map (rhoT GL tm)) (hi.map (rhoT GL tm)) (mx.map (rhoT GL tm))) with _ | v <;> rfl
end
theorem int00 : ((0 : Int) ≤ 0) = True := eq_true (Int.le_refl 0)
theorem toNat0 : Int.toNat 0 = 0 := rfl
theorem eq_ft : (false == true) = false := rfl
theorem eq_tf : (true == false) = false := rfl
theorem prS_und {P : Program} {t : TypeId} {d : TypeDesc} (hu : P.underlying t = some d) : prS P (underlying t) = some d := by
  unfold underlying
  rw [prS_bind]
  show prS P (match P.underlying t with | some d => pure d | none => stuck "no such type") = some d
  rw [hu]
  rfl
theorem prS_map {α β : Type} {P : Program} (s : Sem α) (f : α → β) : prS P (f <$> s) = (prS P s).map f := by
  show prS P (Sem.bind s fun a => Sem.pure (f a)) = _
  have := prS_bind (P := P) s fun a => (Sem.pure (f a) : Sem β)
  have h : (s >>= fun a => (Sem.pure (f a) : Sem β)) = Sem.bind s fun a => Sem.pure (f a) := rfl
  rw [← h, this]
  cases prS P s <;> rfl
theorem ix1_str {P : Program} {t : TypeId} (hu : P.underlying t = some .string) (hp : List Ob) (s : ByteArray) (k : IntKind) (i : Nat) (b : UInt8) (h : s[i]? = some b) : ix1 P hp t (.lf (.string s)) (.lf (.int k (i : Int))) = some (.lf (.int .u8 b.toNat), hp, 0, 0) := by
  simp [ix1, lfo, Instr.index, asIntOf, prS_bind, prS_pure, prS_und hu, h, out1, tvOf, tvO]
theorem ln1_str {P : Program} {t : TypeId} (hu : P.underlying t = some .string) (hp : List Ob) (s : ByteArray) (ty : TypeId) : ln1 P hp #[t] ty (.lf (.string s)) = some (.lf (.int .i64 (s.size : Int)), hp, 0, 0) := by
  simp [ln1, lfo, Builtin.len_, prS_bind, prS_pure, prS_und hu, out1, tvOf, tvO, goInt]
theorem sliceB_ok {P : Program} {k : IntKind} {n m : Nat} {c : BoundsCode} (h : n ≤ m) : prS P (Instr.sliceBound (.int k (n : Int)) m c) = some n := by
  simp [Instr.sliceBound, asIntOf, h, prS_pure]
theorem sl1_from {P : Program} {t : TypeId} (hu : P.underlying t = some .string) (hp : List Ob) (s : ByteArray) (k : IntKind) (i : Nat) (h : i ≤ s.size) : sl1 P hp t (.lf (.string s)) (some (.lf (.int k (i : Int)))) none none = some (.lf (.string (s.extract i s.size)), hp, 0, 0) := by
  simp [sl1, lfo, lfoO, Instr.sliceAt, Instr.slice, Instr.sliceBounds, prS_bind, prS_pure, prS_und hu, sliceB_ok h, prS_map, out1, tvOf, tvO]
theorem sl1_to {P : Program} {t : TypeId} (hu : P.underlying t = some .string) (hp : List Ob) (s : ByteArray) (k : IntKind) (i : Nat) (h : i ≤ s.size) : sl1 P hp t (.lf (.string s)) none (some (.lf (.int k (i : Int)))) none = some (.lf (.string (s.extract 0 i)), hp, 0, 0) := by
  simp [sl1, lfo, lfoO, Instr.sliceAt, Instr.slice, Instr.sliceBounds, prS_bind, prS_pure, prS_und hu, sliceB_ok h, prS_map, out1, tvOf, tvO]
theorem sl1_both {P : Program} {t : TypeId} (hu : P.underlying t = some .string) (hp : List Ob) (s : ByteArray) (k l : IntKind) (i j : Nat) (h : i ≤ j) (hj : j ≤ s.size) : sl1 P hp t (.lf (.string s)) (some (.lf (.int k (i : Int)))) (some (.lf (.int l (j : Int)))) none = some (.lf (.string (s.extract i j)), hp, 0, 0) := by
  simp [sl1, lfo, lfoO, Instr.sliceAt, Instr.slice, Instr.sliceBounds, prS_bind, prS_pure, prS_und hu, sliceB_ok h, prS_map, sliceB_ok hj, out1, tvOf, tvO]
end Go.Eng
end

section
set_option linter.unusedVariables false
set_option linter.unusedSimpArgs false
namespace Go.Eng
def confT (x y : Option Tmp × List Tmp) : Bool := (match x.1 with | some d => y.2.contains d || y.1 == some d | none => false) || (match y.1 with | some d => x.2.contains d | none => false)
def confM (x y : Nat × Nat) : Bool := decide (x.2 &&& (y.1 ||| y.2) ≠ 0) || decide (x.1 &&& y.2 ≠ 0)
theorem conf_parts (x y : Lg) : conf x y = (confM (x.R, x.W) (y.R, y.W) || confT (x.dst, x.look) (y.dst, y.look)) := by
  unfold conf confM confT
  simp only [Bool.or_assoc]
  rfl
def freeL (dms : List Nat) (n : Nat) : List (List Nat) := (List.range n).map fun j => (List.range j).filter fun k => !(dms.getD j 0).testBit k
def statOk (ops : Array Oper) (free : List (List Nat)) : Bool := (List.range ops.size).all fun j => (free.getD j []).all fun k => match ops[k]?, ops[j]? with
  | some x, some y => !confT (x.dst, lookT ops x) (y.dst, lookT ops y)
  | _, _ => true
def runM (P : Program) (M : Prm) (env : EnvT) (ops : Array Oper) (free : List (List Nat)) : List Oper → List TV → List Ob → List (Nat × Nat) → QR
  | [], tm, hp, _ => some (tm, hp)
  | o :: os, tm, hp, ms => match stepT P M env ops tm hp o with
    | some (t, hp', R, W) => if ((free.getD ms.length []).all fun k => !confM (ms.getD k (0, 0)) (R, W ||| newM hp.length hp'.length)) = true then runM P M env ops free os (putT tm o.dst t) hp' (ms ++ [(R, W ||| newM hp.length hp'.length)]) else none
    | none => none
section
variable {P : Program} {M : Prm} {env : EnvT} {ops : Array Oper}
theorem runM_sound {dms : List Nat} (hst : statOk ops (freeL dms ops.size) = true) {r : List TV × List Ob} : ∀ (l : List Oper) (tm : List TV) (hp : List Ob) (log : List Lg), (∀ i, l[i]? = ops[log.length + i]?) → (∀ (k : Nat) (y : Lg), log[k]? = some y → ∃ o, ops[k]? = some o ∧ y.dst = o.dst ∧ y.look = lookT ops o) → runM P M env ops (freeL dms ops.size) l tm hp (log.map fun y => (y.R, y.W)) = some r → runD P M env ops dms l tm hp log = some r
  | [], tm, hp, log, _, _, h => h
  | o :: os, tm, hp, log, hl, hlog, h => by
    have ho : ops[log.length]? = some o := by have := hl 0; simpa using this.symm
    have hlt : log.length < ops.size := (Array.getElem?_eq_some_iff.1 ho).1
    rw [runM] at h
    rw [runD]
    rcases hs : stepT P M env ops tm hp o with _ | ⟨t, hp', R, W⟩
    · rw [hs] at h; cases h
    · rw [hs] at h
      simp only at h ⊢
      split at h
      · rename_i hc
        have hchk : chk (dms.getD log.length 0) log ⟨o.dst, lookT ops o, R, W ||| newM hp.length hp'.length⟩ = true := by
          unfold chk
          rw [List.all_eq_true]
          intro k hk
          have hk := List.mem_range.1 hk
          cases hb : (dms.getD log.length 0).testBit k with
          | true => rw [Bool.or_true]
          | false =>
            rw [Bool.or_false, conf_parts]
            have hf : k ∈ (freeL dms ops.size).getD log.length [] := by
              unfold freeL
              rw [List.getD_eq_getElem?_getD, List.getElem?_map, List.getElem?_range hlt]
              simp only [Option.map_some, Option.getD_some, List.mem_filter, List.mem_range]
              exact ⟨hk, by rw [hb]; rfl⟩
            have h1 := List.all_eq_true.1 hst log.length (List.mem_range.2 hlt)
            have h1 := List.all_eq_true.1 h1 k hf
            obtain ⟨x, hx, e1, e2⟩ := hlog k (log[k]) (List.getElem?_eq_getElem hk)
            rw [hx, ho] at h1
            have hg : log.getD k ⟨none, [], 0, 0⟩ = log[k] := by rw [List.getD_eq_getElem?_getD, List.getElem?_eq_getElem hk]; rfl
            rw [List.length_map] at hc
            have h2 := List.all_eq_true.1 hc k hf
            rw [List.getD_eq_getElem?_getD, List.getElem?_map, List.getElem?_eq_getElem hk] at h2
            rw [hg, e1, e2]
            simp only [Option.map_some, Option.getD_some, Bool.not_eq_true'] at h1 h2 ⊢
            rw [h1, h2]
            rfl
        rw [if_pos hchk]
        refine runM_sound hst os _ _ _ (fun i => ?_) (fun k y hy => ?_) (by rw [List.map_append]; exact h)
        · have := hl (i + 1)
          rw [List.getElem?_cons_succ] at this
          rw [this, List.length_append, List.length_singleton]
          congr 1; omega
        · by_cases e : k < log.length
          · rw [List.getElem?_append_left e] at hy
            exact hlog k y hy
          · rw [List.getElem?_append_right (by omega)] at hy
            have hk0 : k - log.length = 0 := by
              have := (List.getElem?_eq_some_iff.1 hy).1
              simp at this; omega
            rw [hk0] at hy
            cases hy
            exact ⟨o, by rw [show k = log.length by omega]; exact ho, rfl, rfl⟩
      · cases h
theorem ex_drawn_of {fu n0 : Nat} {hint : Nat → Option Hint} {b id : Nat} {tm : List TV} {hp : List Ob} {free : List (List Nat)} {r : List TV × List Ob} (ha : acyT ops = true) (hf : freeL (depM ops.toList []) ops.size = free) (hst : statOk ops free = true) (h : runM P M env ops free ops.toList tm hp [] = some r) : exec P M env fu n0 hint b (.region id ops true) tm hp = some (.nor, r.1, r.2) := by
  rw [ex_drawn, if_pos ha]
  subst hf
  rw [runM_sound hst ops.toList tm hp [] (fun i => by simp) (fun k y hy => by simp at hy) h]
  rfl
def exZ (P : Program) (M : Prm) (env : EnvT) (fu n0 : Nat) (hint : Nat → Option Hint) (b : Nat) (c : Code) (tm : List TV) (hp : List Ob) : XR := exec P M env fu n0 hint b c tm hp
theorem ex_drawn_m {fu n0 : Nat} {hint : Nat → Option Hint} {b id : Nat} {tm : List TV} {hp : List Ob} {free : List (List Nat)} (ha : acyT ops = true) (hf : freeL (depM ops.toList []) ops.size = free) (hst : statOk ops free = true) : exec P M env fu n0 hint b (.region id ops true) tm hp = (match runM P M env ops free ops.toList tm hp [] with
    | some r => some (.nor, r.1, r.2)
    | none => exZ P M env fu n0 hint b (.region id ops true) tm hp) := by
  cases h : runM P M env ops free ops.toList tm hp [] with
  | some r => exact ex_drawn_of ha hf hst h
  | none => rfl
end
def regOps (k : Nat) : Code → Option (Array Oper)
  | .region id ops _ => if id = k then some ops else none
  | .seq a b => match regOps k a with
    | some c => some c
    | none => regOps k b
  | .block _ c => regOps k c
  | .scope c => regOps k c
  | .loop c => regOps k c
  | .cond _ a b => match regOps k a with
    | some c => some c
    | none => regOps k b
  | _ => none
end Go.Eng
end
