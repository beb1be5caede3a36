import Derived.Test.YtoopilemlgamkaaDoorHRefInt
import Derived.Lib.ConvBytes
set_option linter.unusedVariables false
namespace Go.Proofs.YtoopilemlgamkaaDoor
open Go.RowKit

theorem below_bytes (w : World) (e : TypeId) (s : ByteArray) : Below w.heap.size w (Lib.bytesWorld w e s) :=
  ⟨rfl, rfl, rfl, by rw [Lib.bytesWorld_size]; omega, fun k hk => Lib.bytesWorld_at_old w e s k hk⟩
theorem rd_bytes (w : World) (e : TypeId) (s : ByteArray) : Rd (Lib.bytesWorld w e s) (Lib.bytesWorld w e s).heap.size (some ⟨w.heap.size, 0, none⟩) (bs (sb s)) := by
  refine .inr ⟨w.heap.size, 0, rfl, by rw [Lib.bytesWorld_size]; omega, fun j u hu => ?_⟩
  have hj : j < s.size := by
    have := (List.getElem?_eq_some_iff.1 hu).1
    rwa [bs_len, sb_len] at this
  have h := bs_get (sb s) j (by rw [sb_len]; exact hj)
  rw [hu] at h
  rw [Option.some.inj h, Nat.zero_add, Lib.bytesWorld_cell w e s j hj]
  have hj2 : j < s.data.toList.length := by simpa using hj
  simp [sb, List.getD, List.getElem?_map, List.getElem?_eq_getElem hj2]

set_option maxHeartbeats 400000 in
set_option maxRecDepth 100000 in
theorem refBytes_any (s : ByteArray) (w : World) (hs : s.size + 32 ≤ 140737488355328) :
    Calls Tryd.prog 46 #[.string s] w fun e w' => ∃ v', e = .returned v' ∧ OwnB w' w.heap.size v' (encS s) ∧ Below w.heap.size w w' := by
  have he := enc_len s.size (by omega)
  have hcv := fun (W : World) => Lib.run_convert_string_bytes (P := Tryd.prog) W 9 22 5 s Tryd.underlying9 Tryd.underlying22 Tryd.underlying5
  have HS : Hid (∀ X, X = enc (s.size : Int) → X ++ sb s = encS s) := fun X h => by rw [h]; rfl
  go_enter Tryd.func46, Tryd.ntmps46
  go_wp2_with (first
    | (go_at_call 62; refine (refInt_any s.size _ ⟨by omega, by omega⟩).mono ?_; rintro e w1 ⟨v1, rfl, hown1, hbel1⟩)
    | (at_builtin; refine wpList_putL (hown1.below (below_bytes w1 _ s)) (rd_bytes w1 _ s) (sb_len s).symm (Nat.le_trans hbel1.size (below_bytes w1 _ s).size) (by rw [sb_len]; omega) rfl _ _ rfl rfl rfl ?_; intro v2 w2 hown2 hbel2))
  go_ret
  exact ⟨_, rfl, by rw [← HS.out _ rfl]; exact hown2, (hbel1.trans ((below_bytes w1 _ s).mono hbel1.size)).trans hbel2⟩

end Go.Proofs.YtoopilemlgamkaaDoor
