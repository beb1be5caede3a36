/-
  A machine on plain data, eighteen: what a proof says of it.
-/
import Derived.Test.YtjgkocijmbepmaaGreatDoorE7
set_option linter.unusedVariables false
section
set_option linter.unusedVariables false
set_option linter.unusedSimpArgs false
namespace Go.Eng
open Go.RowKit
def reachG (g : List (List Nat)) : Nat → List Nat → List Nat → List Nat
  | 0, _, acc => acc
  | _, [], acc => acc
  | n + 1, i :: todo, acc => if acc.contains i then reachG g n todo acc else reachG g n (g.getD i [] ++ todo) (acc ++ [i])
theorem getD_ids (hp : List Ob) (i : Nat) : idsO (hp.getD i (.ot none)) = (hp.map idsO).getD i [] := by
  simp only [List.getD_eq_getElem?_getD, List.getElem?_map]
  cases hp[i]? <;> rfl
theorem reach_eq (hp : List Ob) : ∀ (n : Nat) (todo acc : List Nat), reach hp n todo acc = reachG (hp.map idsO) n todo acc
  | 0, _, _ => rfl
  | n + 1, [], _ => rfl
  | n + 1, i :: todo, acc => by rw [reach, reachG, getD_ids, reach_eq hp n, reach_eq hp n]
def closedG (g : List (List Nat)) (l : Option (List Bool)) (L : List Nat) : Bool := decide L.Nodup && L.all fun id => match g[id]? with
  | some is => (match l with | some l => l.getD id false | none => true) && is.all fun i => L.contains i
  | none => false
theorem closed0_eq (hp : List Ob) (L : List Nat) : closed0 hp L = closedG (hp.map idsO) none L := by
  unfold closed0 closedG
  congr 1
  refine List.all_congr rfl fun id => ?_
  rw [List.getElem?_map]
  cases hp[id]? <;> simp
theorem closed_eq (hp : List Ob) (L : List Nat) : closed hp L = closedG (hp.map idsO) (some (hp.map (·.live))) L := by
  unfold closed closedG
  congr 1
  refine List.all_congr rfl fun id => ?_
  simp only [List.getElem?_map, List.getD_eq_getElem?_getD]
  cases hp[id]? <;> simp
def lay (n0 : Nat) (g : List (List Nat)) (r : List Nat) : Option (List Nat) :=
  let L := reachG g (4 * g.length + 4) ((g.take n0).flatten ++ r) (List.range n0)
  if (closedG g none L = true ∧ r.all (fun i => L.contains i) = true) ∧ L.take n0 = List.range n0 then some L else none
theorem fin_lay (n0 : Nat) (r : TV) (hp : List Ob) : fin n0 r hp = (match lay n0 (hp.map idsO) (ids r) with | some L => some (ren (idx L) r, L.map fun id => renO (idx L) (hp.getD id (.ot none))) | none => none) := by
  unfold fin lay
  simp only [reach_eq, closed0_eq, List.length_map, List.map_take]
  split <;> rfl
theorem compact_lay (n0 : Nat) (tm : List TV) (hp : List Ob) : compact n0 tm hp = (match lay n0 (hp.map idsO) (idsL tm) with | some L => some (renL (idx L) tm, L.map fun id => renO (idx L) (hp.getD id (.ot none))) | none => none) := by
  unfold compact lay
  simp only [reach_eq, closed0_eq, List.length_map, List.map_take]
  split <;> rfl
def layC (g : List (List Nat)) (l : List Bool) (r : List Nat) : Option (List Nat) :=
  let L := reachG g (4 * g.length + 4) r []
  if closedG g (some l) L = true ∧ r.all (fun i => L.contains i) = true then some L else none
theorem call_lay (env : EnvT) (bn : Nat → Nat) (hp : List Ob) (f : FuncId) (args : List TV) : absCallF env bn hp f args = (match layC (hp.map idsO) (hp.map (·.live)) (idsL args) with
  | some L => (match env f (renL (idx L) args) (L.map fun id => renO (idx L) (hp.getD id (.ot none))) with
    | some (r, objs') => if L.length ≤ objs'.length then some (ren (backO L hp.length) r, mergeH hp objs' L (bn L.length), mask L, mask (alw L (bn L.length))) else none
    | none => none)
  | none => none) := by
  unfold absCallF layC
  simp only [reach_eq, closed_eq, List.length_map]
  split <;> rfl
def strs (l : List ByteArray) : List TV := l.map fun s => .lf (.string s)
theorem strs_len (l : List ByteArray) : (strs l).length = l.length := by simp [strs]
theorem strs_take (l : List ByteArray) : (strs l).take l.length = strs l := List.take_of_length_le (by simp [strs])
theorem strs_app (l k : List ByteArray) : strs l ++ strs k = strs (l ++ k) := by simp [strs]
theorem strs_nil : strs [] = [] := rfl
theorem strs_cons (a : ByteArray) (l : List ByteArray) : strs (a :: l) = .lf (.string a) :: strs l := rfl
theorem idsL_strs (l : List ByteArray) : idsL (strs l) = [] := by
  induction l with
  | nil => rfl
  | cons a l ih => simp only [strs, List.map_cons, idsL, ids, List.nil_append]; exact ih
theorem renL_strs (f : Nat → Nat) (l : List ByteArray) : renL f (strs l) = strs l := by
  induction l with
  | nil => rfl
  | cons a l ih => simp only [strs, List.map_cons, renL, ren]; congr 1
theorem cls_vw (id sz off len : Nat) (full : Bool) : cls (.vw id sz off len full) = some [.vw id sz off len full] := rfl
theorem le_self (n : Nat) : (n ≤ n) = True := eq_true (Nat.le_refl n)
theorem zero_le_eq (n : Nat) : (0 ≤ n) = True := eq_true (Nat.zero_le n)
theorem newM_self (n : Nat) : newM n n = 0 := by simp [newM]
theorem nilPt (hp : List Ob) (id off : Nat) (r : AR) : orE (absNilCheck hp (.pt id off)) r = some (.pt id off, hp, 0, 0) := rfl
theorem or00 : (0 ||| 0 : Nat) = 0 := rfl
theorem and00 (n : Nat) : (n &&& 0 : Nat) = 0 := Nat.and_zero n
def stT (n : Nat) (hp : List Ob) (id off : Nat) (y : TV) : AR := match hp[id]?, cls y with
    | some (.vr e cs), some ys => if ys.length = n ∧ off + ys.length ≤ cs.length then some (.lf undef, hp.set id (.vr e (putC cs off ys)), 0, 2 ^ id) else none
    | some (.ro e sz m cs fz), some ys => if ys.length = n ∧ off + ys.length ≤ cs.length ∧ fz * sz ≤ off then some (.lf undef, hp.set id (.ro e sz m (putC cs off ys) fz), 0, 2 ^ id) else none
    | _, _ => none
theorem absStore_of {P : Program} {t n : Nat} (h : (P.info? t).map (·.size) = some n) (hp : List Ob) (id off : Nat) (y : TV) : absStore P hp t y (.pt id off) = stT n hp id off y := by
  obtain ⟨i, h1, rfl⟩ := Option.map_eq_some_iff.1 h
  simp only [absStore, stT, h1]
  rcases hp[id]? with _ | ⟨e, cs⟩ | ⟨e, sz, n, cs, fz⟩ | m <;> rcases cls y with _ | ys <;> rfl
end Go.Eng
end

section
set_option linter.unusedVariables false
set_option linter.unusedSimpArgs false
namespace Go.Eng
open Go.RowKit
theorem prS_bind {α β : Type} {P : Program} (s : Sem α) (f : α → Sem β) : prS P (s >>= f) = (match prS P s with | some a => prS P (f a) | none => none) := by
  show prS P (Sem.bind s f) = _
  induction s with
  | pure a => rfl
  | program k ih => exact ih P
  | _ => rfl
theorem prS_pure {α : Type} {P : Program} (a : α) : prS P (pure a) = some a := rfl
def out1 (hp : List Ob) (x : Option Value) : AR := match x with
  | some v => some (tvOf v, hp, 0, 0)
  | none => none
def bin2 (P : Program) (hp : List Ob) (op : BinOp) (t : TypeId) (x y : Operand) (X Y : TV) : AR := match lfo X, lfo Y with
  | some a, some b => out1 hp (prS P (do eqGuard op t x y a b; binOp op t a b))
  | _, _ => none
def un1 (P : Program) (hp : List Ob) (op : UnOp) (X : TV) : AR := match lfo X with
  | some a => out1 hp (prS P (Op.unary op a))
  | none => none
def conv1 (P : Program) (hp : List Ob) (s d : TypeId) (X : TV) : AR := match lfo X with
  | some a => out1 hp (prS P (convert s d a))
  | none => none
section
variable {P : Program} {GL : Nat → Option (List Dt)} {tm : List TV} {hp : List Ob} {d : Option Tmp} {ty : TypeId} {p : String} {af : Array Edge} {g : Option (Nat × Bool)}
theorem pure_bin (op : BinOp) (t u : TypeId) (x y : Operand) : absPure P GL tm hp ⟨d, .binOp op t x y u, ty, p, af, g⟩ = bin2 P hp op t x y (evT GL tm x) (evT GL tm y) := by
  unfold absPure bin2
  simp only [Op.operands, List.all_cons, List.all_nil, Bool.and_true, Bool.and_eq_true]
  rcases hx : lfo (evT GL tm x) with _ | a
  · simp
  · rcases hy : lfo (evT GL tm y) with _ | b
    · simp
    · simp only [Option.isSome_some, and_self, if_true]
      unfold execOp rhoT
      simp only [hx, hy, Option.getD_some]
      rw [prS_bind]
      rcases prS P (do eqGuard op t x y a b; binOp op t a b) with _ | v <;> rfl
theorem pure_un (op : UnOp) (t : TypeId) (x : Operand) : absPure P GL tm hp ⟨d, .unOp op t x, ty, p, af, g⟩ = un1 P hp op (evT GL tm x) := by
  unfold absPure un1
  simp only [Op.operands, List.all_cons, List.all_nil, Bool.and_true]
  rcases hx : lfo (evT GL tm x) with _ | a
  · simp
  · simp only [Option.isSome_some, if_true]
    unfold execOp rhoT
    simp only [hx, Option.getD_some]
    rw [prS_bind]
    rcases prS P (Op.unary op a) with _ | v <;> rfl
theorem pure_conv (s e : TypeId) (x : Operand) : absPure P GL tm hp ⟨d, .convert s e x, ty, p, af, g⟩ = conv1 P hp s e (evT GL tm x) := by
  unfold absPure conv1
  simp only [Op.operands, List.all_cons, List.all_nil, Bool.and_true]
  rcases hx : lfo (evT GL tm x) with _ | a
  · simp
  · simp only [Option.isSome_some, if_true]
    unfold execOp rhoT
    simp only [hx, Option.getD_some]
    rw [prS_bind]
    rcases prS P (convert s e a) with _ | v <;> rfl
end
end Go.Eng
end

section
set_option linter.unusedVariables false
set_option linter.unusedSimpArgs false
namespace Go.Eng
open Go.RowKit
def idxN : List Nat → Nat → Nat
  | [], _ => 0
  | x :: l, i => if x = i then 0 else idxN l i + 1
theorem idx_eq : ∀ (L : List Nat) (i : Nat), idx L i = idxN L i
  | [], i => rfl
  | x :: l, i => by
    have ih := idx_eq l i
    unfold idx at ih ⊢
    rw [idxN, List.idxOf_cons, ih]
    by_cases h : x = i
    · simp [h]
    · rw [if_neg h, beq_eq_false_iff_ne.2 h]; rfl
def backN : List Nat → Nat → Nat → Nat
  | [], n, i => n + i
  | x :: _, _, 0 => x
  | _ :: l, n, i + 1 => backN l n i
theorem back_eq : ∀ (L : List Nat) (n i : Nat), backO L n i = backN L n i
  | [], n, i => by simp [backO, backN]
  | x :: l, n, 0 => by simp [backO, backN]
  | x :: l, n, i + 1 => by
    have ih := back_eq l n i
    unfold backO at ih ⊢
    rw [backN, ← ih, List.getElem?_cons_succ, List.length_cons]
    cases l[i]? with
    | some y => rfl
    | none => simp
def mergeN (L : List Nat) (b : Nat) (objs : List Ob) (n : Nat) : Nat → List Ob → List Ob
  | _, [] => (objs.drop L.length).map (renO (backN L n))
  | i, ob :: hp => (if L.contains i = true ∧ b.testBit (idxN L i) = false then renO (backN L n) (objs.getD (idxN L i) (.ot none)) else ob) :: mergeN L b objs n (i + 1) hp
theorem merge_go (L : List Nat) (b : Nat) (objs : List Ob) (n : Nat) (all : List Ob) : ∀ (hp : List Ob) (i : Nat), (∀ k, hp[k]? = all[i + k]?) →
    ((List.range' i hp.length).map fun id => if L.contains id = true ∧ b.testBit (idxN L id) = false then renO (backN L n) (objs.getD (idxN L id) (.ot none)) else all.getD id (.ot none)) ++ (objs.drop L.length).map (renO (backN L n)) = mergeN L b objs n i hp
  | [], i, _ => rfl
  | ob :: hp, i, h => by
    rw [List.length_cons, List.range'_succ, List.map_cons, List.cons_append, mergeN, merge_go L b objs n all hp (i + 1) (fun k => by have := h (k + 1); rwa [List.getElem?_cons_succ, show i + (k + 1) = i + 1 + k by omega] at this)]
    congr 1
    have := h 0
    simp only [List.getElem?_cons_zero, Nat.add_zero] at this
    rw [List.getD_eq_getElem?_getD (l := all), ← this]
    rfl
theorem merge_eq (hp objs : List Ob) (L : List Nat) (b : Nat) : mergeH hp objs L b = mergeN L b objs hp.length 0 hp := by
  rw [← merge_go L b objs hp.length hp hp 0 (fun k => by rw [Nat.zero_add])]
  unfold mergeH
  rw [← List.range_eq_range', show backO L hp.length = backN L hp.length from funext fun i => back_eq L hp.length i]
  simp only [idx_eq]
theorem idx_fun (L : List Nat) : idx L = idxN L := funext fun i => idx_eq L i
theorem call_n (env : EnvT) (bn : Nat → Nat) (hp : List Ob) (f : FuncId) (args : List TV) : absCallF env bn hp f args = (match layC (hp.map idsO) (hp.map (·.live)) (idsL args) with
  | some L => (match env f (renL (idxN L) args) (L.map fun id => renO (idxN L) (hp.getD id (.ot none))) with
    | some (r, objs') => if L.length ≤ objs'.length then some (ren (backN L hp.length) r, mergeN L (bn L.length) objs' hp.length 0 hp, mask L, mask (alw L (bn L.length))) else none
    | none => none)
  | none => none) := by
  rw [call_lay]
  simp only [idx_fun, merge_eq, show ∀ L : List Nat, backO L hp.length = backN L hp.length from fun L => funext fun i => back_eq L hp.length i]
  rfl
theorem fin_n (n0 : Nat) (r : TV) (hp : List Ob) : fin n0 r hp = (match lay n0 (hp.map idsO) (ids r) with | some L => some (ren (idxN L) r, L.map fun id => renO (idxN L) (hp.getD id (.ot none))) | none => none) := by
  rw [fin_lay]
  simp only [idx_fun]
  rfl
theorem compact_n (n0 : Nat) (tm : List TV) (hp : List Ob) : compact n0 tm hp = (match lay n0 (hp.map idsO) (idsL tm) with | some L => some (renL (idxN L) tm, L.map fun id => renO (idxN L) (hp.getD id (.ot none))) | none => none) := by
  rw [compact_lay]
  simp only [idx_fun]
  rfl
end Go.Eng
end

section
set_option linter.unusedVariables false
set_option linter.unusedSimpArgs false
namespace Go.Eng
open Go.RowKit
def plS (l : List (Nat × Nat)) : Nat → Option (Nat × Nat) := (l.toArray[·]?)
theorem plS_eq (l : List (Nat × Nat)) (i : Nat) : plS l i = l[i]? := by simp [plS]
def bsF (e k n : Nat) (z : List TV) (ps : List (Nat × TV)) (hp : List Ob) : AR :=
  match fillT (fun i => some (i * k, k)) (List.replicate n z).flatten ps with
  | some cs => if cs.length = n * k ∧ cs.all one1 = true then some (.vw hp.length k 0 n false, hp ++ [.ro e k n cs 0], 0, 0) else none
  | none => none
def apT (e k b : Nat) (hp : List Ob) (s x : TV) : AR := match srcR hp k x with
  | some (m, ys, R) => absApp hp e k b s m ys R
  | none => none
def lnT (hp : List Ob) (x : TV) : AR := match rowLen x with
  | some n => some (.lf (.int .i64 (n : Int)), hp, 0, 0)
  | none => none
def slT (k : Nat) (hp : List Ob) (x : TV) (lo hi mx : Option TV) : AR := match x with
    | .fr sz xs full =>
      match bnd 0 lo, bnd xs.length hi, mx, bnd 0 mx with
      | some l, some h, none, _ => if sz = k ∧ l ≤ h ∧ h ≤ xs.length then some (.fr sz ((xs.take h).drop l) (full && decide (h = xs.length)), hp, 0, 0) else none
      | some l, some h, some _, some m => if sz = k ∧ l ≤ h ∧ h ≤ m ∧ m ≤ xs.length ∧ hi.isSome = true then some (.fr sz ((xs.take h).drop l) (decide (h = m)), hp, 0, 0) else none
      | _, _, _, _ => none
    | .vw id sz off len full =>
      match bnd 0 lo, bnd len hi, mx, bnd 0 mx with
      | some l, some h, none, _ => if sz = k ∧ l ≤ h ∧ h ≤ len ∧ (full = true → h = len) then some (.vw id sz (off + l) (h - l) full, hp, 0, 0) else none
      | some l, some h, some _, some m => if sz = k ∧ l ≤ h ∧ h = m ∧ m ≤ len ∧ hi.isSome = true then some (.vw id sz (off + l) (h - l) true, hp, 0, 0) else none
      | _, _, _, _ => none
    | _ => none
theorem absSlice_of {P : Program} {t e k : Nat} (hu : P.underlying t = some (.slice e)) (hi' : (P.info? e).map (·.size) = some k) (hp : List Ob) (x : TV) (lo hi mx : Option TV) : absSlice P hp t x lo hi mx = slT k hp x lo hi mx := by
  obtain ⟨i, h1, rfl⟩ := Option.map_eq_some_iff.1 hi'
  unfold absSlice slT
  rw [hu]
  simp only [h1]
  cases x <;> rfl
theorem bin_rem (P : Program) (hp : List Ob) (t : TypeId) (x y : Operand) (k : IntKind) (a b : Int) (hb : b ≠ 0) : bin2 P hp .rem t x y (.lf (.int k a)) (.lf (.int k b)) = some (.lf (.int k (a.tmod b)), hp, 0, 0) := by
  simp [bin2, lfo, out1, eqGuard, binOp, Op.intDiv, hb, prS_bind, prS_pure, tvOf, tvO]
theorem bin_quo (P : Program) (hp : List Ob) (t : TypeId) (x y : Operand) (k : IntKind) (a b : Int) (hb : b ≠ 0) : bin2 P hp .quo t x y (.lf (.int k a)) (.lf (.int k b)) = some (.lf (.int k (k.wrap (a.tdiv b))), hp, 0, 0) := by
  simp [bin2, lfo, out1, eqGuard, binOp, Op.intDiv, hb, prS_bind, prS_pure, tvOf, tvO]
theorem un_not (P : Program) (hp : List Ob) (b : Bool) : un1 P hp .not (.lf (.bool b)) = some (.lf (.bool (!b)), hp, 0, 0) := rfl
theorem un_neg (P : Program) (hp : List Ob) (k : IntKind) (a : Int) : un1 P hp .neg (.lf (.int k a)) = some (.lf (.int k (k.wrap (0 - a))), hp, 0, 0) := rfl
theorem wrap_ok (a : Int) (h : -9223372036854775808 ≤ a ∧ a ≤ 9223372036854775807) : IntKind.i64.wrap a = a := by
  have e : IntKind.i64.wrap a = if a % 18446744073709551616 ≥ 9223372036854775808 then a % 18446744073709551616 - 18446744073709551616 else a % 18446744073709551616 := by
    unfold IntKind.wrap
    simp [IntKind.signed, IntKind.bits]
  rw [e]
  split <;> omega
theorem toL (a : ByteArray) : a.toList = a.data.toList := by
  have : ∀ (n i : Nat) (r : List UInt8), a.size - i = n → ByteArray.toList.loop a i r = r.reverse ++ a.data.toList.drop i := by
    intro n
    induction n with
    | zero =>
      intro i r h
      have h1 : ¬ i < a.size := by omega
      rw [ByteArray.toList.loop, if_neg h1, List.drop_eq_nil_of_le (by show a.data.size ≤ i; exact Nat.le_of_not_lt h1), List.append_nil]
    | succ n ih =>
      intro i r h
      have h1 : i < a.size := by omega
      rw [ByteArray.toList.loop, if_pos h1, ih (i + 1) _ (by omega)]
      have h2 : i < a.data.toList.length := h1
      rw [List.drop_eq_getElem_cons h2, List.reverse_cons, List.append_assoc]
      congr 2
      have : a.get! i = a.data[i]! := rfl
      rw [this, getElem!_pos a.data i h1]
      rfl
  have h := this a.size 0 [] (by omega)
  rw [List.reverse_nil, List.nil_append, List.drop_zero] at h
  exact h
theorem str_eq (a b : ByteArray) : (a.toList == b.toList) = decide (a = b) := by
  rw [toL, toL]
  by_cases h : a = b
  · subst h; simp
  · rw [decide_eq_false h]
    refine beq_eq_false_iff_ne.2 fun e => h ?_
    obtain ⟨⟨l⟩⟩ := a
    obtain ⟨⟨k⟩⟩ := b
    have : l = k := e
    rw [this]
theorem bin_eqs (P : Program) (hp : List Ob) (t : TypeId) (x y : Operand) (a b : ByteArray) : bin2 P hp .eql t x y (.lf (.string a)) (.lf (.string b)) = some (.lf (.bool (decide (a = b))), hp, 0, 0) := by
  rw [← str_eq]
  rfl
theorem bin_nes (P : Program) (hp : List Ob) (t : TypeId) (x y : Operand) (a b : ByteArray) : bin2 P hp .neq t x y (.lf (.string a)) (.lf (.string b)) = some (.lf (.bool (!decide (a = b))), hp, 0, 0) := by
  rw [← str_eq]
  rfl
theorem bin_adds (P : Program) (hp : List Ob) (t : TypeId) (x y : Operand) (a b : ByteArray) (h : a.size + b.size ≤ 1152921504606846976) : bin2 P hp .add t x y (.lf (.string a)) (.lf (.string b)) = some (.lf (.string (a ++ b)), hp, 0, 0) := by
  have h1 : ¬ ((9223372036854775807 : Int) < (a.size : Int) + (b.size : Int)) := by omega
  simp [bin2, lfo, out1, eqGuard, binOp, Op.stringOp, prS_bind, prS_pure, IntKind.max, IntKind.signed, IntKind.bits]
  rw [if_neg h1]
  rfl
theorem nat0 (j : Nat) : (0 ≤ (j : Int)) = True := eq_true (Int.natCast_nonneg j)
end Go.Eng
end

section
set_option linter.unusedVariables false
set_option linter.unusedSimpArgs false
namespace Go.Eng
open Go.RowKit
def okL (P : Program) (f : FuncId) : Bool := match P.funcs[f]? with
  | some fn => fn.body.isSome && !(fn.name == "runtime.NumGoroutine")
  | none => false
theorem okL_ok (P : Program) : OkF P (okL P) := fun f h => by
  unfold okL at h
  split at h
  · rename_i fn hf
    rw [Bool.and_eq_true, Bool.not_eq_true'] at h
    obtain ⟨c, hc⟩ := Option.isSome_iff_exists.1 h.1
    exact ⟨fn, c, hf, hc, h.2⟩
  · cases h
section
variable {P : Program} {GL : Nat → Option (List Dt)} {G : Gh} {Z : Zn} {w w' : World} {hp : List Ob}
theorem stp_below {T : Nat → Prop} (hz : ∀ g o, Z g o → g < w.heap.size) (hb : Below w.heap.size w w') : Stp G G Z Z w w' T :=
  ⟨Gle.refl G, fun _ _ h => h, ⟨fun _ _ h => h, fun g o h => hb.cell (hz g o h)⟩, hb.mono (Nat.zero_le _), fun b hb' _ => hb.block b hb', fun id i b h1 h2 => .inr ⟨id, i, .inr rfl, h1, h2⟩, fun _ _ h => .inl h, fun g o h => Nat.lt_of_lt_of_le (hz g o h) hb.size⟩
theorem es_quiet {f : FuncId} {bn : Nat} {vs : List Value} {r : TV} (hI : Inv GL G Z w (HPl hp)) (h : Calls P f vs.toArray w fun e w' => ∃ v, e = .returned v ∧ Below w.heap.size w w' ∧ Rep G Z w' r v) :
    Calls P f vs.toArray w fun e w' => ∃ v G' Z', e = .returned v ∧ Stp G G' Z Z' w w' (TB bn) ∧ Inv GL G' Z' w' (HPl hp) ∧ Rep G' Z' w' r v := by
  refine h.mono ?_
  rintro e w' ⟨v, rfl, hb, hr⟩
  have hs : ∀ {T : Nat → Prop}, Stp G G Z Z w w' T := stp_below hI.zlt hb
  have res : Res G Z w hp.length hp 0 r G Z w' v := ⟨hs, hr, fun id ob h => (tt_none h).elim, fun id ob h => (tt_none h).elim, fun id id' ob ob' i i' b h => (tt_none h).elim, fun id i h => (tt_none h).elim⟩
  exact ⟨v, G, Z, rfl, hs, inv_full hI (ext_same (R := 0)) (fun id i h => (tt_none h).elim) res, hr⟩
end
end Go.Eng
end
