import Derived.Test.YtoopilemlgamkaaDoorShaT
import Derived.Test.YtoopilemlgamkaaDoorH9
import Derived.Test.YtoopilemlgamkaaDoorH10
import Derived.Test.YtoopilemlgamkaaDoorH11
import Derived.Test.YtoopilemlgamkaaDoorH13
import Derived.Test.YtoopilemlgamkaaDoorH14
import Derived.Lib.SlBytesConst
set_option linter.unusedVariables false
set_option linter.unusedSimpArgs false
namespace Go.Proofs.YtoopilemlgamkaaDoor
open Go.RowKit

/-! ### What the examples come to. -/
theorem ex_mac : hexL (mac (sb ⟨#[74, 101, 102, 101]⟩) (sb ⟨#[119, 104, 97, 116, 32, 100, 111, 32, 121, 97, 32, 119, 97, 110, 116, 32, 102, 111, 114, 32, 110, 111, 116, 104, 105, 110, 103, 63]⟩)) = [53, 98, 100, 99, 99, 49, 52, 54, 98, 102, 54, 48, 55, 53, 52, 101, 54, 97, 48, 52, 50, 52, 50, 54, 48, 56, 57, 53, 55, 53, 99, 55, 53, 97, 48, 48, 51, 102, 48, 56, 57, 100, 50, 55, 51, 57, 56, 51, 57, 100, 101, 99, 53, 56, 98, 57, 54, 52, 101, 99, 51, 56, 52, 51] := by kernel_rfl
theorem ex_of : hexL ((sha [8, 129, 1, 97, 128]).take 16) = [51, 54, 99, 100, 53, 48, 56, 53, 48, 51, 50, 57, 102, 56, 56, 52, 48, 54, 101, 51, 49, 98, 98, 56, 97, 55, 100, 56, 102, 98, 54, 50] := by kernel_rfl
theorem ex_digs : digs 1 = [1] := by rw [digs_pos (by decide), show 1 / 256 = 0 from rfl, digs_zero]; rfl
theorem ex_enc1 : enc 1 = [129, 1] := by rw [show (1 : Int) = ((1 : Nat) : Int) from rfl, enc_pos, ex_digs]; rfl
theorem ex_enc0 : enc 0 = [128] := by rw [show (0 : Int) = ((0 : Nat) : Int) from rfl, enc_pos, digs_zero]; rfl
theorem ex_in : ofIn 8 [⟨#[97]⟩, ⟨#[]⟩] = [8, 129, 1, 97, 128] := by
  have e1 : encS ⟨#[97]⟩ = [129, 1, 97] := by
    show enc 1 ++ sb ⟨#[97]⟩ = _
    rw [ex_enc1]; rfl
  have e2 : encS ⟨#[]⟩ = [128] := by
    show enc 0 ++ sb ⟨#[]⟩ = _
    rw [ex_enc0]; rfl
  unfold ofIn
  rw [List.flatMap_cons, List.flatMap_cons, e1, e2]; rfl

/-- A whole array is read where a guard says yes. -/
theorem wpList_load_guarded {P : Program} {ops : Array Oper} {rest : List Oper} {op : Oper} {a : Act} {w : World} {Q : Exit → Act → World → Prop} (ty : TypeId) (x : Operand) (ho : op.op = .load ty x) (hw : Region.wanted op (yielded ops a.tmps) = true)
    (b o : Nat) (hx : a.eval x = .pointer (some ⟨b, o, none⟩)) (cs : List Value) (d : TypeDesc) (hc : w.rangeAt b o cs)
    (hu : P.underlying ty = some d) (hd : d.isRow = true) (hi : (P.info? ty).map (·.size) = some cs.length)
    (h : wpList P ops Q rest (a.put op.dst (.agg cs.toArray)) w) : wpList P ops Q (op :: rest) a w :=
  wpList_step fun K hK => by
    rw [if_pos hw]
    exact wp_load_mid ty x ho b o hx cs d hc hu hd hi (hK _ _ h)
theorem eqg_sum : Tryd.prog.eqGuardType Tryd.prog.depth 24 = false := by kernel_rfl
theorem wpList_eqlSum {ops : Array Oper} {rest : List Oper} {op : Oper} {a : Act} {w : World} {Q : Exit → Act → World → Prop} (x y : Operand) (u : TypeId) (ho : op.op = .binOp .eql 24 x y u) (hw : Region.wanted op (yielded ops a.tmps) = true)
    (X Y : Array Value) (hx : a.eval x = .agg X) (hy : a.eval y = .agg Y) (b : Bool) (hrun : ∀ W, (Op.equalIn 10000 24 (.agg X) (.agg Y)).run Tryd.prog W = .ok b W)
    (h : wpList Tryd.prog ops Q rest (a.put op.dst (.bool b)) w) : wpList Tryd.prog ops Q (op :: rest) a w :=
  wpList_step fun K hK => by
    rw [if_pos hw]
    have hb : (binOp .eql 24 (.agg X) (.agg Y)).run Tryd.prog w = .ok (.bool b) w := by
      have h1 := hrun w
      show ((Op.equalIn 10000 24 (.agg X) (.agg Y)) >>= fun r => pure (Value.bool r)).run Tryd.prog w = _
      rw [Sem.run_bind, h1]; rfl
    unfold Oper.wp execOp
    simp only [ho, hx, hy, Sem.run_bind, run_eqGuard_agg _ _ _ _ _ _ _ eqg_sum, hb, Result.andThen_ok, Sem.run_pure]
    exact hK _ _ h
/-! ### The calls of the examples. -/
theorem q_eq (a b : ByteArray) (p : Bool) (W : World) (hs : a.size ≤ 9223372036854775807) (hp : decide (a = b) = p) : Calls Tryd.prog 27 #[.string a, .string b] W fun e w' => e = .returned (.bool p) ∧ Below W.heap.size W w' := by
  have h := equal_any a b W hs
  rw [hp] at h
  exact h.mono fun e w' ⟨he, k, hw⟩ => ⟨he, by rw [hw]; exact below_drewN (Below.refl _ _) k⟩
theorem lit_rd (W : World) (xs : List Value) (t : TypeId) (fr : Nat × Nat) : Rd (W.alloc (.cells xs.toArray t fr)) (W.alloc (.cells xs.toArray t fr)).heap.size (some ⟨W.heap.size, 0, none⟩) xs := Rd.row (heap_alloc_new W _)
theorem q_sum (W : World) (hk : Kc W) : Calls Tryd.prog 14 #[.slice (some ⟨W.heap.size, 0, none⟩) 3 3] (W.alloc (.cells #[.int .u8 97, .int .u8 98, .int .u8 99] 5 (3, 4))) fun e w' => e = .returned (.agg (bs (sha [97, 98, 99])).toArray) ∧ Below W.heap.size W w' :=
  (sum_any _ 3 3 [97, 98, 99] _ rfl (lit_rd W (bs [97, 98, 99]) _ _) (by unfold AllB; decide) (hk.later (new_later W _)) (by decide)).mono fun e w' ⟨he, hb⟩ => ⟨he, later (new_later W _) hb⟩
theorem q_of (W : World) (hk : Kc W) : Calls Tryd.prog 24 #[.int .i64 8, .slice (some ⟨W.heap.size, 0, none⟩) 2 2] (W.alloc (.cells #[.string ⟨#[97]⟩, .string ⟨#[]⟩] 9)) fun e w' => e = .returned (.agg (bs ((sha [8, 129, 1, 97, 128]).take 16)).toArray) ∧ Below W.heap.size W w' := by
  have h := Of_any 8 (some ⟨W.heap.size, 0, none⟩) 2 2 [⟨#[97]⟩, ⟨#[]⟩] (W.alloc (.cells #[.string ⟨#[97]⟩, .string ⟨#[]⟩] 9)) (by unfold InR; omega) rfl (lit_rd W (ss [⟨#[97]⟩, ⟨#[]⟩]) _ _) (by intro s hs; simp at hs; rcases hs with rfl | rfl <;> decide) (by decide) (hk.later (new_later W _))
  rw [ex_in] at h
  exact h.mono fun e w' ⟨he, hb⟩ => ⟨he, later (new_later W _) hb⟩
theorem q_hex (Z X : List Nat) (B : ByteArray) (hB : mkS X = B) (h : hexL Z = X) (hb : AllB Z) (hl : Z.length ≤ 1000) (W : World) : Calls Tryd.prog 35 #[.string (mkS Z)] W fun e w' => e = .returned (.string B) ∧ Below W.heap.size W w' := by
  have h2 := hex_any (mkS Z) W (by rw [mkS_size]; exact hl)
  rw [sb_mkS Z hb, h, hB] at h2
  exact h2
theorem run_eqSum (w : World) (d d' : List Nat) (h : d.length = 32) (h' : d'.length = 32) : (Op.equalIn 10000 24 (.agg (bs d).toArray) (.agg (bs d').toArray)).run Tryd.prog w = .ok (decide (d = d')) w := by
  have e : ∀ l : List Nat, bs l = (l.map Int.ofNat).map (Value.int .u8) := fun l => by simp [bs, U8, List.map_map, Function.comp_def]
  have h2 := run_eqArr (P := Tryd.prog) w 9998 32 24 5 .u8 Tryd.underlying24 Tryd.underlying5 (by have := info_u8; simp only [Option.map_eq_some_iff] at this ⊢; obtain ⟨i, hi, hx⟩ := this; exact ⟨i, hi, by simp at hx; exact hx.2.1⟩) (d.map Int.ofNat) (d'.map Int.ofNat) (by simpa using h) (by simpa using h')
  have hd : decide (d.map Int.ofNat = d'.map Int.ofNat) = decide (d = d') := decide_eq_decide.2 (List.map_inj_right (fun a b hab => Int.ofNat.inj hab))
  rw [e, e, h2, hd]
end Go.Proofs.YtoopilemlgamkaaDoor
