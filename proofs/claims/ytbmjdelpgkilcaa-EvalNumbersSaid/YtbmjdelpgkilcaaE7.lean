/-
  A machine on plain data, seventeen: the same machine, which computes what it keeps before it goes on.
-/
import Derived.Test.YtbmjdelpgkilcaaE6
set_option linter.unusedVariables false
section
set_option linter.unusedVariables false
set_option linter.unusedSimpArgs false
namespace Go.Eng
open Go.RowKit
section
variable {α : Type}
def fcN (n : Nat) (k : Nat → α) : α := match n with
  | .zero => k .zero
  | .succ m => k (.succ m)
def fcI (n : Int) (k : Int → α) : α := match n with
  | .ofNat m => fcN m fun m => k (.ofNat m)
  | .negSucc m => fcN m fun m => k (.negSucc m)
def fcB (b : Bool) (k : Bool → α) : α := match b with
  | true => k true
  | false => k false
def fcBs : List UInt8 → (List UInt8 → α) → α
  | [], k => k []
  | b :: l, k => fcN b.toNat fun m => fcBs l fun l' => k (UInt8.ofNat m :: l')
def fcV (v : Value) (k : Value → α) : α := match v with
  | .bool b => fcB b fun b => k (.bool b)
  | .int d n => fcI n fun n => k (.int d n)
  | .string s => fcBs s.data.toList fun l => k (.string ⟨⟨l⟩⟩)
  | .slice a l c => fcN l fun l => fcN c fun c => k (.slice a l c)
  | .pointer a => k (.pointer a)
  | .agg cs => k (.agg cs)
  | .tuple cs => k (.tuple cs)
  | .nilFunc => k .nilFunc
  | .nilIface => k .nilIface
  | v => k v
theorem fcN_eq (n : Nat) (k : Nat → α) : fcN n k = k n := by cases n <;> rfl
theorem fcI_eq (n : Int) (k : Int → α) : fcI n k = k n := by cases n <;> simp only [fcI, fcN_eq]
theorem fcB_eq (b : Bool) (k : Bool → α) : fcB b k = k b := by cases b <;> rfl
theorem fcBs_eq : ∀ (l : List UInt8) (k : List UInt8 → α), fcBs l k = k l
  | [], k => rfl
  | b :: l, k => by rw [fcBs, fcN_eq, fcBs_eq l, UInt8.ofNat_toNat]
theorem fcV_eq (v : Value) (k : Value → α) : fcV v k = k v := by
  cases v <;> simp only [fcV, fcB_eq, fcI_eq, fcBs_eq, fcN_eq]
mutual
def fcD : Dt → (Dt → α) → α
  | .leaf v, k => fcV v fun v => k (.leaf v)
  | .row sz xs, k => fcN sz fun sz => fcDss xs fun xs => k (.row sz xs)
def fcDs : List Dt → (List Dt → α) → α
  | [], k => k []
  | d :: ds, k => fcD d fun d => fcDs ds fun ds => k (d :: ds)
def fcDss : List (List Dt) → (List (List Dt) → α) → α
  | [], k => k []
  | d :: ds, k => fcDs d fun d => fcDss ds fun ds => k (d :: ds)
end
mutual
theorem fcD_eq : ∀ (d : Dt) (k : Dt → α), fcD d k = k d
  | .leaf v, k => by rw [fcD, fcV_eq]
  | .row sz xs, k => by rw [fcD, fcN_eq, fcDss_eq xs]
theorem fcDs_eq : ∀ (ds : List Dt) (k : List Dt → α), fcDs ds k = k ds
  | [], k => by rw [fcDs]
  | d :: ds, k => by rw [fcDs, fcD_eq d, fcDs_eq ds]
theorem fcDss_eq : ∀ (ds : List (List Dt)) (k : List (List Dt) → α), fcDss ds k = k ds
  | [], k => by rw [fcDss]
  | d :: ds, k => by rw [fcDss, fcDs_eq d, fcDss_eq ds]
end
mutual
def fcT : TV → (TV → α) → α
  | .bad, k => k .bad
  | .lf v, k => fcV v fun v => k (.lf v)
  | .fr sz xs full, k => fcN sz fun sz => fcDss xs fun xs => fcB full fun full => k (.fr sz xs full)
  | .vw id sz off len full, k => fcN id fun id => fcN sz fun sz => fcN off fun off => fcN len fun len => fcB full fun full => k (.vw id sz off len full)
  | .pt id off, k => fcN id fun id => fcN off fun off => k (.pt id off)
  | .ep cs off, k => fcDs cs fun cs => fcN off fun off => k (.ep cs off)
  | .ag cs, k => fcTs cs fun cs => k (.ag cs)
  | .tu cs, k => fcTs cs fun cs => k (.tu cs)
  | .fn f a b, k => fcN f fun f => fcTs a fun a => fcTs b fun b => k (.fn f a b)
  | .mp id, k => fcN id fun id => k (.mp id)
  | .ic t x, k => fcT x fun x => k (.ic t x)
def fcTs : List TV → (List TV → α) → α
  | [], k => k []
  | d :: ds, k => fcT d fun d => fcTs ds fun ds => k (d :: ds)
end
mutual
theorem fcT_eq : ∀ (d : TV) (k : TV → α), fcT d k = k d
  | .bad, k => by rw [fcT]
  | .lf v, k => by rw [fcT, fcV_eq]
  | .fr sz xs full, k => by rw [fcT, fcN_eq, fcDss_eq, fcB_eq]
  | .vw id sz off len full, k => by rw [fcT, fcN_eq, fcN_eq, fcN_eq, fcN_eq, fcB_eq]
  | .pt id off, k => by rw [fcT, fcN_eq, fcN_eq]
  | .ep cs off, k => by rw [fcT, fcDs_eq, fcN_eq]
  | .ag cs, k => by rw [fcT, fcTs_eq cs]
  | .tu cs, k => by rw [fcT, fcTs_eq cs]
  | .fn f a b, k => by rw [fcT, fcN_eq, fcTs_eq a, fcTs_eq b]
  | .mp id, k => by rw [fcT, fcN_eq]
  | .ic t x, k => by rw [fcT, fcT_eq x]
theorem fcTs_eq : ∀ (ds : List TV) (k : List TV → α), fcTs ds k = k ds
  | [], k => by rw [fcTs]
  | d :: ds, k => by rw [fcTs, fcT_eq d, fcTs_eq ds]
end
def fcE : List MapEntry → (List MapEntry → α) → α
  | [], k => k []
  | e :: es, k => fcV e.key fun key => fcV e.val fun val => fcN e.born fun born => fcE es fun es => k ({ key := key, val := val, born := born } :: es)
theorem fcE_eq : ∀ (es : List MapEntry) (k : List MapEntry → α), fcE es k = k es
  | [], k => by rw [fcE]
  | e :: es, k => by rw [fcE, fcV_eq, fcV_eq, fcN_eq, fcE_eq es]
def fcO (ob : Ob) (k : Ob → α) : α := match ob with
  | .vr e cs => fcN e fun e => fcTs cs fun cs => k (.vr e cs)
  | .ro e sz n cs fz => fcN e fun e => fcN sz fun sz => fcN n fun n => fcTs cs fun cs => fcN fz fun fz => k (.ro e sz n cs fz)
  | .ot none => k (.ot none)
  | .ot (some (es, c)) => fcE es.toList fun es => fcN c fun c => k (.ot (some (⟨es⟩, c)))
theorem fcO_eq (ob : Ob) (k : Ob → α) : fcO ob k = k ob := by
  unfold fcO
  split <;> simp only [fcN_eq, fcTs_eq, fcE_eq]
def fcH (W n : Nat) : Nat → List Ob → (List Ob → α) → α
  | _, [], k => k []
  | i, ob :: hp, k => if W.testBit i = true ∨ n ≤ i then fcO ob fun ob => fcH W n (i + 1) hp fun hp => k (ob :: hp) else fcH W n (i + 1) hp fun hp => k (ob :: hp)
theorem fcH_eq (W n : Nat) : ∀ (i : Nat) (hp : List Ob) (k : List Ob → α), fcH W n i hp k = k hp
  | _, [], k => by rw [fcH]
  | i, ob :: hp, k => by
    rw [fcH]
    split
    · rw [fcO_eq, fcH_eq]
    · rw [fcH_eq]
def fcL {β : Type} : List β → (List β → α) → α
  | [], k => k []
  | x :: l, k => fcL l fun l => k (x :: l)
theorem fcL_eq {β : Type} : ∀ (l : List β) (k : List β → α), fcL l k = k l
  | [], k => by rw [fcL]
  | x :: l, k => by rw [fcL, fcL_eq l]
end
abbrev QR := Option (List TV × List Ob)
def runDk (P : Program) (M : Prm) (env : EnvT) (ops : Array Oper) (dms : List Nat) : List Oper → List TV → List Ob → List Lg → QR
  | [], tm, hp, _ => some (tm, hp)
  | o :: os, tm, hp, log => match stepT P M env ops tm hp o with
    | some (t, hp', R, W) => fcN R fun R => fcN W fun W => fcT t fun t => fcH W hp.length 0 hp' fun hp' => fcN (W ||| newM hp.length hp'.length) fun W' => if chk (dms.getD log.length 0) log ⟨o.dst, lookT ops o, R, W'⟩ = true then fcL (putT tm o.dst t) fun tm => fcL (log ++ [⟨o.dst, lookT ops o, R, W'⟩]) fun log => runDk P M env ops dms os tm hp' log else none
    | none => none
def runSk (P : Program) (M : Prm) (env : EnvT) (ops : Array Oper) : List Oper → List TV → List Ob → QR
  | [], tm, hp => some (tm, hp)
  | o :: os, tm, hp => match stepT P M env ops tm hp o with
    | some (t, hp', _, W) => fcN W fun W => fcT t fun t => fcH W hp.length 0 hp' fun hp' => fcL (putT tm o.dst t) fun tm => runSk P M env ops os tm hp'
    | none => none
section
variable {P : Program} {M : Prm} {env : EnvT} {ops : Array Oper}
theorem runDk_eq {dms : List Nat} : ∀ (l : List Oper) (tm : List TV) (hp : List Ob) (log : List Lg), runDk P M env ops dms l tm hp log = runD P M env ops dms l tm hp log
  | [], tm, hp, log => rfl
  | o :: os, tm, hp, log => by
    rw [runDk, runD]
    rcases stepT P M env ops tm hp o with _ | ⟨t, hp', R, W⟩
    · rfl
    · simp only [fcN_eq, fcT_eq, fcH_eq, fcL_eq, runDk_eq os]
theorem runSk_eq : ∀ (l : List Oper) (tm : List TV) (hp : List Ob), runSk P M env ops l tm hp = runS P M env ops l tm hp
  | [], tm, hp => rfl
  | o :: os, tm, hp => by
    rw [runSk, runS]
    rcases stepT P M env ops tm hp o with _ | ⟨t, hp', R, W⟩
    · rfl
    · simp only [fcN_eq, fcT_eq, fcH_eq, fcL_eq, runSk_eq os]
end
def cleanK (n0 : Nat) (h : Option Hint) (tm : List TV) (hp : List Ob) : QR := match h with
  | none => some (tm, hp)
  | some h => match clean n0 (some h) tm hp with
    | some (tm, hp) => fcTs tm fun tm => fcH 0 0 0 hp fun hp => some (tm, hp)
    | none => none
theorem cleanK_eq (n0 : Nat) (h : Option Hint) (tm : List TV) (hp : List Ob) : cleanK n0 h tm hp = clean n0 h tm hp := by
  unfold cleanK
  split
  · rfl
  · split <;> simp only [fcTs_eq, fcH_eq, *]
def execK (P : Program) (M : Prm) (env : EnvT) (fu n0 : Nat) (hint : Nat → Option Hint) : Nat → Code → List TV → List Ob → XR
  | _, .skip, tm, hp => some (.nor, tm, hp)
  | _, .region _ ops draw, tm, hp => if draw = true then (if acyT ops = true then (match runDk P M env ops (depM ops.toList []) ops.toList tm hp [] with | some s => some (.nor, s.1, s.2) | none => none) else none) else (match runSk P M env ops ops.toList tm hp with | some s => some (.nor, s.1, s.2) | none => none)
  | b, .seq x y, tm, hp => match execK P M env fu n0 hint b x tm hp with
    | some (.nor, tm1, hp1) => execK P M env fu n0 hint b y tm1 hp1
    | r => r
  | b, .cond c x y, tm, hp => match evT M.GL tm c with
    | .lf (.bool true) => execK P M env fu n0 hint b x tm hp
    | .lf (.bool false) => execK P M env fu n0 hint b y tm hp
    | _ => none
  | _, .block id c, tm, hp => match execK P M env fu n0 hint id c tm hp with
    | some (.ext i, tm1, hp1) => if i = id then some (.nor, tm1, hp1) else some (.ext i, tm1, hp1)
    | r => r
  | b, .scope c, tm, hp => execK P M env fu n0 hint b c tm hp
  | b, .loop c, tm, hp => iter (cleanK n0 (hint b)) (execK P M env fu n0 hint b c) fu tm hp
  | _, .exit id, tm, hp => some (.ext id, tm, hp)
  | _, .label _, tm, hp => some (.nor, tm, hp)
  | _, .ret, tm, hp => some (.ret, tm, hp)
  | _, _, _, _ => none
theorem execK_eq {P : Program} {M : Prm} {env : EnvT} {fu n0 : Nat} {hint : Nat → Option Hint} : ∀ (c : Code) (b : Nat) (tm : List TV) (hp : List Ob), execK P M env fu n0 hint b c tm hp = exec P M env fu n0 hint b c tm hp := by
  intro c
  induction c with
  | region id ops draw =>
    intro b tm hp
    simp only [execK, exec, runDk_eq, runSk_eq]
    split
    · split
      · cases runD P M env ops (depM ops.toList []) ops.toList tm hp [] <;> rfl
      · rfl
    · cases runS P M env ops ops.toList tm hp <;> rfl
  | seq x y ihx ihy =>
    intro b tm hp
    simp only [execK, exec, ihx, ihy]
    rfl
  | cond c x y ihx ihy =>
    intro b tm hp
    simp only [execK, exec, ihx, ihy]
    rfl
  | block id c ih =>
    intro b tm hp
    simp only [execK, exec, ih]
    rfl
  | scope c ih =>
    intro b tm hp
    simp only [execK, exec, ih]
  | loop c ih =>
    intro b tm hp
    simp only [execK, exec]
    rw [show cleanK n0 (hint b) = clean n0 (hint b) from funext fun _ => funext fun _ => cleanK_eq .., show execK P M env fu n0 hint b c = exec P M env fu n0 hint b c from funext fun _ => funext fun _ => ih ..]
  | _ => intro b tm hp; simp only [execK, exec]
def runK (P : Program) (M : Prm) (env : EnvT) (fu : Nat) (hint : FuncId → Nat → Option Hint) : EnvT := fun f args objs =>
  match P.funcs[f]? with
  | some fn => match fn.body with
    | some c => fcN objs.length fun n0 => fcN (M.bn f n0) fun ban => fcL (args ++ List.replicate (fn.ntmps - args.length) (.lf undef)) fun tm => match execK P { M with ban := ban } env fu n0 (hint f) 0 c tm objs with
      | some (.ext _, _, _) => none
      | some (_, tm, hp) => match resL P tm hp fn.results.toList with
        | some r => match (match M.resS f with | some ss => frR M.SH 60 ss hp r | none => some (r, hp)) with
          | some (r1, hp1) => fin n0 r1 hp1
          | none => none
        | none => none
      | none => none
    | none => none
  | none => none
theorem runK_eq {P : Program} {M : Prm} {env : EnvT} {fu : Nat} {hint : FuncId → Nat → Option Hint} : runK P M env fu hint = runF P M env fu hint := by
  funext f args objs
  unfold runK runF
  simp only [fcN_eq, fcL_eq, execK_eq]
  rfl
def callK (P : Program) (M : Prm) (base : EnvT) (fu : Nat) (hint : FuncId → Nat → Option Hint) : Nat → EnvT
  | 0 => base
  | n + 1 => fun f args objs => fcTs args fun args => fcH 0 0 0 objs fun objs => match base f args objs with
    | some (r, objs') => some (r, objs')
    | none => runK P M (envZ M.SH M.argS (callK P M base fu hint n)) fu hint f args objs
theorem callK_eq {P : Program} {M : Prm} {base : EnvT} {fu : Nat} {hint : FuncId → Nat → Option Hint} : ∀ n, callK P M base fu hint n = callF P M base fu hint n
  | 0 => rfl
  | n + 1 => by
    funext f args objs
    rw [callK, callF]
    simp only [fcTs_eq, fcH_eq, runK_eq, callK_eq n]
    rcases base f args objs with _ | ⟨r, objs'⟩ <;> rfl
end Go.Eng
end
