import Derived.Test.YtmfihlcibephlaaDoorZ01
import Derived.Test.YtmfihlcibephlaaDoorZ07
set_option linter.unusedVariables false
set_option linter.unusedSimpArgs false
namespace Go.Proofs.YtmfihlcibephlaaDoor
open Go.RowKit
theorem Int_any (n:Int) (w:World) (hlo:-9223372036854775808 ≤ n) (hhi:n ≤ 9223372036854775807) :
  Calls Tryd.prog 82 #[.int .i64 n] w fun e w' => ∃ v',e = .returned v' ∧ OwnB w' w.heap.size v' (enc n) ∧ Below w.heap.size w w':=by
 go_enter Tryd.func82,Tryd.ntmps82
 go_wp2_with (go_at_call 85;refine (appendInt_any w.heap.size _ [] n _ (Nat.le_refl _) hlo hhi (by simp) (OwnB.nil _ _)).mono ?_;rintro e w1 ⟨v1,rfl,hown,hbel⟩)
 go_ret
 exact ⟨_,rfl,hown,hbel⟩
theorem shl_or (m d:Nat) (D:Int) (hD:D = (d:Int)) (hm:m < 2 ^ 56) (hd:d < 256):bits .or .u64 ((m:Int) * 256) D = ((256 * m + d:Nat):Int):=by
 subst hD
 have e:(m:Int) * 256 = ((m * 256:Nat):Int):=by omega
 rw [e,u64_or_nat _ _ (by omega) (by omega),nat_join 8 (m * 256) d (by omega) (by omega)]
 congr 1
 omega
set_option maxHeartbeats 400000 in
set_option maxRecDepth 100000 in
theorem magnitude_any (B cap:Nat) (A:Option Addr) (zs:List Nat) (neg:Bool) (w:World) (hr:Rd w B A (bs zs)) (hb:∀ d ∈ zs,d < 256) (hl:zs.length ≤ 8) :
  Calls Tryd.prog 83 #[.slice A zs.length cap,.bool neg] w fun e w' => e = .returned (.int .u64 (val (inv neg zs):Int)) ∧ w = w':=by
 have HB:=Lib.hid hb
 clear hb
 go_enter Tryd.func83,Tryd.ntmps83
 go_wp2
 go_loop [5,7,10] (fun m _ i => ∃ (k M:Nat),k ≤ zs.length ∧ i = .int .i64 (k:Int) ∧ m = .int .u64 (M:Int) ∧ M = val (inv neg (zs.take k))) (fun _ _ i => zs.length - (intOf i).toNat)
 case atStart => exact ⟨0,0,Nat.zero_le _,rfl,rfl,by cases neg <;> rfl⟩
 case round =>
  obtain ⟨k,M,hk,rfl,rfl,hM⟩:=hrel
  by_cases hlt:k < zs.length
  ·obtain ⟨b,o,rfl,_,hc⟩:=hr.at_ (by simp [bs];intro h;rw [h] at hlt;simp at hlt)
   have hcell:=hc k _ (bs_get zs k hlt)
   have hz:zs[k] < 256:=HB.out _ (List.getElem_mem hlt)
   have hM56:M < 2 ^ 56:=by
    rw [hM]
    have h1:=inv_val_lt neg (zs.take k) (fun d hd => HB.out d (List.mem_of_mem_take hd))
    have h2:(zs.take k).length ≤ 7:=by rw [List.length_take];omega
    exact Nat.lt_of_lt_of_le h1 (by rw [show (2:Nat) ^ 56 = 256 ^ 7 from by decide];exact Nat.pow_le_pow_right (by omega) h2)
   have hnext:=inv_snoc neg zs k hlt
   rw [← hM] at hnext
   have HN:=Lib.hid hnext
   have HM:=Lib.hid hM
   clear hc hnext hM hr
   cases neg
   ·go_wp2
    go_round
    case rel => exact ⟨k + 1,_,by omega,by go_num,congrArg (Value.int .u64) (shl_or M zs[k] _ rfl hM56 hz),HN.out.symm⟩
    case measure => simp [intOf];omega
   ·go_wp2
    go_round
    case rel => exact ⟨k + 1,_,by omega,by go_num,congrArg (Value.int .u64) (shl_or M (255 - zs[k]) _ (by omega) hM56 (by omega)),HN.out.symm⟩
    case measure => simp [intOf];omega
  ·have hkl:k = zs.length:=by omega
   subst hkl
   rw [List.take_length] at hM
   subst hM
   go_wp2
   go_ret
   exact ⟨rfl,rfl⟩
theorem magnitude_call (n B cap:Nat) (A:Option Addr) (zs:List Nat) (neg:Bool) (w:World) (hn:n = zs.length) (hr:Rd w B A (bs zs)) (hb:∀ d ∈ zs,d < 256) (hl:zs.length ≤ 8) :
  Calls Tryd.prog 83 #[.slice A n cap,.bool neg] w fun e w' => e = .returned (.int .u64 (val (inv neg zs):Int)) ∧ w = w':=by
 subst hn;exact magnitude_any B cap A zs neg w hr hb hl
def DecRes (w:World) (r:Int × Nat × Nat) (e:Ending) (w':World):Prop:=e = .returned (.tuple #[.int .i64 r.1,.int .i64 (r.2.1:Int),.int .i64 (r.2.2:Int)]) ∧ ∃ k,w' = w.drewN k
theorem DecRes.mk {w:World} {r:Int × Nat × Nat} {a b c:Int} {k:Nat} (h:r = (a,b.toNat,c.toNat)) (hb:0 ≤ b) (hc:0 ≤ c):DecRes w r (.returned (.tuple #[.int .i64 a,.int .i64 b,.int .i64 c])) (w.drewN k):=by
 subst h
 refine ⟨?_,k,rfl⟩
 simp [Int.toNat_of_nonneg hb,Int.toNat_of_nonneg hc]
set_option maxHeartbeats 400000 in
set_option maxRecDepth 100000 in
theorem getInt_pos (B b o cap h:Nat) (t:List Nat) (w:World) (hb:b < B) (hc:∀ j u,(bs (h :: t))[j]? = some u → w.cell? ⟨b,o + j,none⟩ = some u) (hby:∀ d ∈ t,d < 256) (hh:h < 256) (hh1:128 ≤ h)
  (hcap:t.length + 1 ≤ cap) (hcap2:cap ≤ maxLen) :
  Calls Tryd.prog 69 #[.slice (some ⟨b,o,none⟩) (t.length + 1) cap] w (DecRes w (dec (h :: t))):=by
 have hc0:w.cell? ⟨b,o,none⟩ = some (.int .u8 (h:Int)):=hc 0 _ rfl
 have HC:=Lib.hid hc
 have HB:=Lib.hid hby
 clear hc hby
 obtain ⟨K,hK⟩:∃ K:Nat,(h:Int) - 128 = (K:Int):=⟨h - 128,by omega⟩
 have hKo:kOf h = K:=by unfold kOf;rw [if_neg (by omega)];omega
 have HK:=Lib.hid hKo
 clear hKo
 have hle:decide ((h:Int) ≤ 127) = false:=by simp;omega
 have hng:decide (h < 128) = false:=by simp;omega
 have HNG:=Lib.hid hng
 clear hng
 unfold maxLen at hcap2
 have hl0:(((t.length:Int) + 1) == 0) = false:=by simp;omega
 by_cases h8:8 < K
 ·rw [dec_big HK.out h8]
  go_enter Tryd.func69,Tryd.ntmps69
  go_wp2_with fail
  go_quiet (fail)
  go_wp2_with fail
  go_ret3
  exact DecRes.mk rfl (by decide) (by decide)
 by_cases hlt:t.length < K
 ·rw [dec_short HK.out h8 hlt]
  go_enter Tryd.func69,Tryd.ntmps69
  go_wp2_with fail
  go_quiet (fail)
  go_wp2_with fail
  go_ret3
  exact DecRes.mk rfl (by decide) (by decide)
 rw [dec_end HK.out h8 hlt HNG.out]
 have hM64:val (inv false (t.take K)) < 18446744073709551616:=by
  have h1:=inv_val_lt false (t.take K) (fun d hd => HB.out d (List.mem_of_mem_take hd))
  exact Nat.lt_of_lt_of_le h1 (by rw [show (18446744073709551616:Nat) = 256 ^ 8 from by decide];exact Nat.pow_le_pow_right (by omega) (by rw [List.length_take];omega))
 have hmc:∀ (A:Option Addr) (c:Nat) (W:World),Rd W B A (bs (t.take K)) → Calls Tryd.prog 83 #[.slice A K c,.bool false] W fun e w' => e = .returned (.int .u64 (val (inv false (t.take K)):Int)) ∧ W = w':=fun A c W hr =>
  magnitude_call K B c A (t.take K) false W (by rw [List.length_take];omega) hr (fun d hd => HB.out d (List.mem_of_mem_take hd)) (by rw [List.length_take];omega)
 have hM0:K = 0 → val (inv false (t.take K)) = 0:=fun h => by subst h;rfl
 generalize val (inv false (t.take K)) = M at hM64 hmc hM0
 have HM:=Lib.hid hmc
 clear hmc
 have hrd:∀ nq,Rd (w.drewN nq) B (some ⟨b,o + 1,none⟩) (bs (t.take K)):=fun nq => by
  have h1:Rd w B (some ⟨b,o,none⟩) (bs (h :: t)):=.inr ⟨b,o,rfl,hb,HC.out⟩
  have h2:=(h1.drop 1).take K
  have h3:=h2.drewN nq
  simpa [bs] using h3
 have HR:=Lib.hid hrd
 clear hrd
 by_cases hc1:cap = 1
 ·have hK0:K = 0:=by omega
  have hM00:=hM0 hK0
  subst hK0 hM00 hc1
  have hrd0:∀ A nq,Rd (w.drewN nq) B A (bs (t.take 0)):=fun A nq => Rd.nil _ _ _
  have HR0:=Lib.hid hrd0
  clear hrd0 hM0
  have e:decEnd false 0 0 = (0,1,0):=rfl
  rw [e];clear e
  go_enter Tryd.func69,Tryd.ntmps69
  go_wp2_with fail
  go_quiet (fail)
  go_wp2_with (go_at_call 83;refine (HM.out _ _ _ (HR0.out _ _)).mono ?_;rintro e w1 ⟨rfl,rfl⟩)
  go_ret3
  exact DecRes.mk rfl (by decide) (by decide)
 clear hM0
 by_cases hM:9223372036854775807 < M
 ·have e:decEnd false K M = (0,0,2):=if_pos (.inl hM)
  rw [e];clear e
  go_enter Tryd.func69,Tryd.ntmps69
  go_wp2_with fail
  go_quiet (fail)
  go_wp2_with (go_at_call 83;refine (HM.out _ _ _ (HR.out _)).mono ?_;rintro e w1 ⟨rfl,rfl⟩)
  go_ret3
  exact DecRes.mk rfl (by decide) (by decide)
 by_cases hK0:K = 0
 ·subst hK0
  have e:decEnd false 0 M = ((M:Int),1,0):=by unfold decEnd;rw [if_neg (by omega)];simp
  rw [e];clear e
  go_enter Tryd.func69,Tryd.ntmps69
  go_wp2_with fail
  go_quiet (fail)
  go_wp2_with (go_at_call 83;refine (HM.out _ _ _ (HR.out _)).mono ?_;rintro e w1 ⟨rfl,rfl⟩)
  go_ret3
  exact DecRes.mk rfl (by decide) (by decide)
 by_cases hz:M / 2 ^ (8 * (K - 1)) = 0
 ·have hzb:((M:Int) / 2 ^ (8 * (K - 1)) == 0) = true:=by rw [beq_iff_eq];have:=congrArg (Int.ofNat) hz;simpa using this
  have e:decEnd false K M = (0,0,2):=if_pos (.inr ⟨by omega,hz⟩)
  rw [e];clear e hz
  go_enter Tryd.func69,Tryd.ntmps69
  go_wp2_with fail
  go_quiet (fail)
  go_wp2_with (go_at_call 83;refine (HM.out _ _ _ (HR.out _)).mono ?_;rintro e w1 ⟨rfl,rfl⟩)
  go_ret3
  exact DecRes.mk rfl (by decide) (by decide)
 ·have hzb:((M:Int) / 2 ^ (8 * (K - 1)) == 0) = false:=by
   rw [beq_eq_false_iff_ne];intro h;apply hz
   have h2:((M / 2 ^ (8 * (K - 1)):Nat):Int) = 0:=by simpa using h
   omega
  have e:decEnd false K M = ((M:Int),1 + K,0):=by
   unfold decEnd;rw [if_neg]
   ·rfl
   ·rintro (h | ⟨_,h⟩)
    ·omega
    ·exact hz h
  rw [e];clear e hz
  go_enter Tryd.func69,Tryd.ntmps69
  go_wp2_with fail
  go_quiet (fail)
  go_wp2_with (go_at_call 83;refine (HM.out _ _ _ (HR.out _)).mono ?_;rintro e w1 ⟨rfl,rfl⟩)
  go_ret3
  exact DecRes.mk (by congr 2) (by omega) (by decide)
set_option maxHeartbeats 400000 in
set_option maxRecDepth 100000 in
theorem getInt_neg (B b o cap h:Nat) (t:List Nat) (w:World) (hb:b < B) (hc:∀ j u,(bs (h :: t))[j]? = some u → w.cell? ⟨b,o + j,none⟩ = some u) (hby:∀ d ∈ t,d < 256) (hh:h < 256) (hh1:h < 128)
  (hcap:t.length + 1 ≤ cap) (hcap2:cap ≤ maxLen) :
  Calls Tryd.prog 69 #[.slice (some ⟨b,o,none⟩) (t.length + 1) cap] w (DecRes w (dec (h :: t))):=by
 have hc0:w.cell? ⟨b,o,none⟩ = some (.int .u8 (h:Int)):=hc 0 _ rfl
 have HC:=Lib.hid hc
 have HB:=Lib.hid hby
 clear hc hby
 obtain ⟨K,hK⟩:∃ K:Nat,127 - (h:Int) = (K:Int):=⟨127 - h,by omega⟩
 have hKo:kOf h = K:=by unfold kOf;rw [if_pos (by omega)];omega
 have HK:=Lib.hid hKo
 clear hKo
 have hle:decide ((h:Int) ≤ 127) = true:=by simp;omega
 have hng:decide (h < 128) = true:=by simp;omega
 have HNG:=Lib.hid hng
 clear hng
 unfold maxLen at hcap2
 have hl0:(((t.length:Int) + 1) == 0) = false:=by simp;omega
 by_cases h8:8 < K
 ·rw [dec_big HK.out h8]
  go_enter Tryd.func69,Tryd.ntmps69
  go_wp2_with fail
  go_quiet (fail)
  go_wp2_with fail
  go_ret3
  exact DecRes.mk rfl (by decide) (by decide)
 by_cases hlt:t.length < K
 ·rw [dec_short HK.out h8 hlt]
  go_enter Tryd.func69,Tryd.ntmps69
  go_wp2_with fail
  go_quiet (fail)
  go_wp2_with fail
  go_ret3
  exact DecRes.mk rfl (by decide) (by decide)
 rw [dec_end HK.out h8 hlt HNG.out]
 have hM64:val (inv true (t.take K)) < 18446744073709551616:=by
  have h1:=inv_val_lt true (t.take K) (fun d hd => HB.out d (List.mem_of_mem_take hd))
  exact Nat.lt_of_lt_of_le h1 (by rw [show (18446744073709551616:Nat) = 256 ^ 8 from by decide];exact Nat.pow_le_pow_right (by omega) (by rw [List.length_take];omega))
 have hmc:∀ (A:Option Addr) (c:Nat) (W:World),Rd W B A (bs (t.take K)) → Calls Tryd.prog 83 #[.slice A K c,.bool true] W fun e w' => e = .returned (.int .u64 (val (inv true (t.take K)):Int)) ∧ W = w':=fun A c W hr =>
  magnitude_call K B c A (t.take K) true W (by rw [List.length_take];omega) hr (fun d hd => HB.out d (List.mem_of_mem_take hd)) (by rw [List.length_take];omega)
 have hM0:K = 0 → val (inv true (t.take K)) = 0:=fun h => by subst h;rfl
 generalize val (inv true (t.take K)) = M at hM64 hmc hM0
 have HM:=Lib.hid hmc
 clear hmc
 have hrd:∀ nq,Rd (w.drewN nq) B (some ⟨b,o + 1,none⟩) (bs (t.take K)):=fun nq => by
  have h1:Rd w B (some ⟨b,o,none⟩) (bs (h :: t)):=.inr ⟨b,o,rfl,hb,HC.out⟩
  have h2:=(h1.drop 1).take K
  have h3:=h2.drewN nq
  simpa [bs] using h3
 have HR:=Lib.hid hrd
 clear hrd
 by_cases hc1:cap = 1
 ·have hK0:K = 0:=by omega
  have hM00:=hM0 hK0
  subst hK0 hM00 hc1
  have hrd0:∀ A nq,Rd (w.drewN nq) B A (bs (t.take 0)):=fun A nq => Rd.nil _ _ _
  have HR0:=Lib.hid hrd0
  clear hrd0 hM0
  have e:decEnd true 0 0 = (-1,1,0):=rfl
  rw [e];clear e
  go_enter Tryd.func69,Tryd.ntmps69
  go_wp2_with fail
  go_quiet (fail)
  go_wp2_with (go_at_call 83;refine (HM.out _ _ _ (HR0.out _ _)).mono ?_;rintro e w1 ⟨rfl,rfl⟩)
  go_ret3
  exact DecRes.mk rfl (by decide) (by decide)
 clear hM0
 by_cases hM:9223372036854775807 < M
 ·have e:decEnd true K M = (0,0,2):=if_pos (.inl hM)
  rw [e];clear e
  go_enter Tryd.func69,Tryd.ntmps69
  go_wp2_with fail
  go_quiet (fail)
  go_wp2_with (go_at_call 83;refine (HM.out _ _ _ (HR.out _)).mono ?_;rintro e w1 ⟨rfl,rfl⟩)
  go_ret3
  exact DecRes.mk rfl (by decide) (by decide)
 by_cases hK0:K = 0
 ·subst hK0
  have e:decEnd true 0 M = (-1 - (M:Int),1,0):=by unfold decEnd;rw [if_neg (by omega)];simp
  rw [e];clear e
  go_enter Tryd.func69,Tryd.ntmps69
  go_wp2_with fail
  go_quiet (fail)
  go_wp2_with (go_at_call 83;refine (HM.out _ _ _ (HR.out _)).mono ?_;rintro e w1 ⟨rfl,rfl⟩)
  go_ret3
  exact DecRes.mk rfl (by decide) (by decide)
 by_cases hz:M / 2 ^ (8 * (K - 1)) = 0
 ·have hzb:((M:Int) / 2 ^ (8 * (K - 1)) == 0) = true:=by rw [beq_iff_eq];have:=congrArg (Int.ofNat) hz;simpa using this
  have e:decEnd true K M = (0,0,2):=if_pos (.inr ⟨by omega,hz⟩)
  rw [e];clear e hz
  go_enter Tryd.func69,Tryd.ntmps69
  go_wp2_with fail
  go_quiet (fail)
  go_wp2_with (go_at_call 83;refine (HM.out _ _ _ (HR.out _)).mono ?_;rintro e w1 ⟨rfl,rfl⟩)
  go_ret3
  exact DecRes.mk rfl (by decide) (by decide)
 ·have hzb:((M:Int) / 2 ^ (8 * (K - 1)) == 0) = false:=by
   rw [beq_eq_false_iff_ne];intro h;apply hz
   have h2:((M / 2 ^ (8 * (K - 1)):Nat):Int) = 0:=by simpa using h
   omega
  have e:decEnd true K M = (-1 - (M:Int),1 + K,0):=by
   unfold decEnd;rw [if_neg]
   ·rfl
   ·rintro (h | ⟨_,h⟩)
    ·omega
    ·exact hz h
  rw [e];clear e hz
  go_enter Tryd.func69,Tryd.ntmps69
  go_wp2_with fail
  go_quiet (fail)
  go_wp2_with (go_at_call 83;refine (HM.out _ _ _ (HR.out _)).mono ?_;rintro e w1 ⟨rfl,rfl⟩)
  go_ret3
  exact DecRes.mk (by congr 2) (by omega) (by decide)
theorem getInt_any (n B cap:Nat) (A:Option Addr) (zs:List Nat) (w:World) (hn:n = zs.length) (hr:Rd w B A (bs zs)) (hb:∀ d ∈ zs,d < 256) (hcap:n ≤ cap) (hcap2:cap ≤ maxLen) :
  Calls Tryd.prog 69 #[.slice A n cap] w (DecRes w (dec zs)):=by
 subst hn
 cases zs with
 | nil =>
  go_enter Tryd.func69,Tryd.ntmps69
  go_wp2_with fail
  go_ret3
  exact DecRes.mk (k:=0) rfl (by decide) (by decide)
 | cons h t =>
  obtain ⟨b,o,rfl,hlt,hc⟩:=hr.at_ (by simp [bs])
  by_cases hh:h < 128
  ·exact getInt_neg B b o cap h t w hlt hc (fun d hd => hb d (by simp [hd])) (hb h (by simp)) hh hcap hcap2
  ·exact getInt_pos B b o cap h t w hlt hc (fun d hd => hb d (by simp [hd])) (hb h (by simp)) (by omega) hcap hcap2
end Go.Proofs.YtmfihlcibephlaaDoor
namespace Go.Proofs.YtmfihlcibephlaaDoor
open Go.RowKit
set_option maxRecDepth 100000 in
theorem size_u8e:(sizeOf (Tryd.prog.elem 69)) = (sizeOf 5):=by kernel_rfl
set_option maxRecDepth 100000 in
theorem slice_fromB (A:Option Addr) (n cap k:Nat) (h:k ≤ n) (hcap:n ≤ cap) (hmax:cap ≤ maxLen):∃ A',(∀ W,(Instr.slice 69 (.slice A n cap) (some (.int .i64 (k:Int))) none none).run Tryd.prog W = .ok (.slice A' (n - k) (cap - k)) W) ∧
  ∀ W B zs,zs.length = n → Rd W B A (bs zs) → Rd W B A' (bs (zs.drop k)):=by
 unfold maxLen at hmax
 have hsz:∀ W,(sizeOf 5).run Tryd.prog W = .ok 1 W:=fun _ => by kernel_rfl
 have hrun:∀ W,(Instr.slice 69 (.slice A n cap) (some (.int .i64 (k:Int))) none none).run Tryd.prog W = .ok (.slice (if cap = k then A else A.map (fun a => a.add k)) (n - k) (cap - k)) W:=by
  intro W
  rw [run_slice_l W 69 A n cap Tryd.underlying69 .i64 (k:Int) (by omega) (by omega),size_u8e,hsz]
  simp [Result.andThen,sliced]
 refine ⟨_,hrun,?_⟩
 intro W B zs hn hr
 by_cases h1:cap = k
 ·rw [if_pos h1,List.drop_of_length_le (by omega)]
  exact Rd.nil _ _ _
 ·rw [if_neg h1]
  rcases hr with h2 | ⟨b,o,rfl,hb,hc⟩
  ·left
   have:zs = []:=by simpa [bs] using h2
   rw [this];simp [bs]
  ·have h2:=Rd.drop (.inr ⟨b,o,rfl,hb,hc⟩:Rd W B (some ⟨b,o,none⟩) (bs zs)) k
   have ha:(⟨b,o,none⟩:Addr).add k = ⟨b,o + k,none⟩:=by unfold Addr.add;split <;> simp_all
   rw [Option.map_some,ha]
   simpa [bs] using h2
def dh2 (zs:List Nat) (a b:Int) (p:Nat):Nat × Int × Int × Int × Nat:=if (dec (zs.drop p)).2.2 = 0 then (0,a,b,(dec (zs.drop p)).1,p + (dec (zs.drop p)).2.1) else ((dec (zs.drop p)).2.2,0,0,0,p)
def dh1 (zs:List Nat) (a:Int) (p:Nat):Nat × Int × Int × Int × Nat:=if (dec (zs.drop p)).2.2 = 0 then dh2 zs a (dec (zs.drop p)).1 (p + (dec (zs.drop p)).2.1) else ((dec (zs.drop p)).2.2,0,0,0,p)
def dh0 (zs:List Nat) (p:Nat):Nat × Int × Int × Int × Nat:=if (dec (zs.drop p)).2.2 = 0 then dh1 zs (dec (zs.drop p)).1 (p + (dec (zs.drop p)).2.1) else ((dec (zs.drop p)).2.2,0,0,0,p)
def dzL (g:Nat → Nat → Int × Tr × Nat × Nat) (k n:Int):Nat → List Tr → Nat → Nat → Int × Tr × Nat × Nat
 | 0,acc,p,c => (0,.node k n acc,p,c)
 | m + 1,acc,p,c => if (g p c).1 = 0 then dzL g k n m (acc ++ [(g p c).2.1]) (g p c).2.2.1 (g p c).2.2.2 else ((g p c).1,z0,(g p c).2.2.1,(g p c).2.2.2)
def dz (zs:List Nat):Nat → Nat → Nat → Int × Tr × Nat × Nat
 | 0,p,c => (4,z0,p,c)
 | f + 1,p,c => if c = 256 then (4,z0,p,c) else if (dh0 zs p).1 ≠ 0 then (((dh0 zs p).1:Int),z0,(dh0 zs p).2.2.2.2,c + 1)
  else if (dh0 zs p).2.2.2.1 < 0 then (2,z0,(dh0 zs p).2.2.2.2,c + 1)
  else dzL (dz zs f) (dh0 zs p).2.1 (dh0 zs p).2.2.1 (dh0 zs p).2.2.2.1.toNat [] (dh0 zs p).2.2.2.2 (c + 1)
theorem dz_form (zs:List Nat) (f p c:Nat):dz zs (f + 1) p c = if c = 256 then (4,z0,p,c) else if (dh0 zs p).1 ≠ 0 then (((dh0 zs p).1:Int),z0,(dh0 zs p).2.2.2.2,c + 1)
  else if (dh0 zs p).2.2.2.1 < 0 then (2,z0,(dh0 zs p).2.2.2.2,c + 1)
  else dzL (dz zs f) (dh0 zs p).2.1 (dh0 zs p).2.2.1 (dh0 zs p).2.2.2.1.toNat [] (dh0 zs p).2.2.2.2 (c + 1):=by rw [dz]
theorem dec_drop {zs:List Nat} {p:Nat} (hp:p ≤ zs.length) (h:(dec (zs.drop p)).2.2 = 0):p + (dec (zs.drop p)).2.1 ≤ zs.length ∧ i64r (dec (zs.drop p)).1:=by
 have h1:=dec_ok (b:=zs.drop p) (n:=(dec (zs.drop p)).1) (u:=(dec (zs.drop p)).2.1) (by rw [← h])
 rw [List.length_drop] at h1
 exact ⟨by omega,h1.2.2.2.1,h1.2.2.2.2⟩
theorem dh_ok {zs:List Nat} {p:Nat} (hp:p ≤ zs.length):(dh0 zs p).2.2.2.2 ≤ zs.length ∧ i64r (dh0 zs p).2.1 ∧ i64r (dh0 zs p).2.2.1 ∧ i64r (dh0 zs p).2.2.2.1:=by
 have z:i64r 0:=by unfold i64r;omega
 unfold dh0
 split
 ·rename_i h0
  obtain ⟨p1,r1⟩:=dec_drop hp h0
  unfold dh1
  split
  ·rename_i h1
   obtain ⟨p2,r2⟩:=dec_drop p1 h1
   unfold dh2
   split
   ·rename_i h2
    obtain ⟨p3,r3⟩:=dec_drop p2 h2
    exact ⟨p3,r1,r2,r3⟩
   ·exact ⟨p2,z,z,z⟩
  ·exact ⟨p1,z,z,z⟩
 ·exact ⟨hp,z,z,z⟩
theorem dz_ok (zs:List Nat):∀ (f p c:Nat),p ≤ zs.length → c ≤ 256 → (dz zs f p c).2.2.1 ≤ zs.length ∧ (dz zs f p c).2.2.2 ≤ 256 ∧ c ≤ (dz zs f p c).2.2.2 ∧ ((dz zs f p c).1 = 0 → c + 1 ≤ (dz zs f p c).2.2.2)
 | 0,p,c,hp,hc => ⟨hp,hc,Nat.le_refl _,fun h => by simp [dz] at h⟩
 | f + 1,p,c,hp,hc => by
  rw [dz_form]
  obtain ⟨h1,_⟩:=dh_ok hp
  split
  ·exact ⟨hp,hc,Nat.le_refl _,fun h => by simp at h⟩
  ·split
   ·exact ⟨h1,by show c + 1 ≤ 256;omega,by show c ≤ c + 1;omega,fun _ => Nat.le_refl _⟩
   ·split
    ·exact ⟨h1,by show c + 1 ≤ 256;omega,by show c ≤ c + 1;omega,fun _ => Nat.le_refl _⟩
    ·have hL:∀ (k n:Int) (m:Nat) (acc:List Tr) (p c:Nat),p ≤ zs.length → c ≤ 256 → (dzL (dz zs f) k n m acc p c).2.2.1 ≤ zs.length ∧ (dzL (dz zs f) k n m acc p c).2.2.2 ≤ 256 ∧ c ≤ (dzL (dz zs f) k n m acc p c).2.2.2:=by
      intro k n m
      induction m with
      | zero => intro acc p c hp hc;exact ⟨hp,hc,Nat.le_refl _⟩
      | succ m ih =>
       intro acc p c hp hc
       obtain ⟨h1,h2,h3,_⟩:=dz_ok zs f p c hp hc
       unfold dzL
       split
       ·obtain ⟨h4,h5,h6⟩:=ih (acc ++ [(dz zs f p c).2.1]) _ _ h1 h2
        exact ⟨h4,h5,by omega⟩
       ·exact ⟨h1,h2,h3⟩
     obtain ⟨h4,h5,h6⟩:=hL (dh0 zs p).2.1 (dh0 zs p).2.2.1 (dh0 zs p).2.2.2.1.toNat [] (dh0 zs p).2.2.2.2 (c + 1) h1 (by omega)
     exact ⟨h4,h5,by omega,fun _ => h6⟩
def Fr2 (B a b:Nat) (W W':World):Prop:=Below B W W' ∧ ∀ k,k ≠ a → k ≠ b → k < W.heap.size → W'.heap[k]? = W.heap[k]?
theorem Fr2.refl (B a b:Nat) (W:World):Fr2 B a b W W:=⟨Below.refl _ _,fun _ _ _ _ => rfl⟩
theorem Fr2.trans {B a b:Nat} {W W' W'':World} (h:Fr2 B a b W W') (h':Fr2 B a b W' W''):Fr2 B a b W W'' :=
 ⟨h.1.trans h'.1,fun k h1 h2 hl => (h'.2 k h1 h2 (Nat.lt_of_lt_of_le hl h.1.size)).trans (h.2 k h1 h2 hl)⟩
theorem Fr2.of_below {B a b:Nat} {W W':World} (h:Below W.heap.size W W') (hB:B ≤ W.heap.size):Fr2 B a b W W':=⟨h.mono hB,fun k _ _ hk => h.block k hk⟩
theorem Fr2.of_fr {B a b:Nat} {W W':World} (h:Fr a W W') (hB:B ≤ a):Fr2 B a b W W':=⟨h.1.mono hB,fun k h1 _ hk => h.2 k h1 hk⟩
theorem Fr2.more {B a b:Nat} {W W' W'':World} (h:Fr2 B a b W W') (h':Below W.heap.size W' W'') (hB:B ≤ W.heap.size):Fr2 B a b W W'':=⟨h.1.trans (h'.mono hB),fun k h1 h2 hl => (h'.block k hl).trans (h.2 k h1 h2 hl)⟩
theorem Fr2.set {B a b g j:Nat} {W W':World} (h:Fr2 B a b W W') (hB:B ≤ g) (hg:g = a ∨ g = b ∨ W.heap.size ≤ g) (v:Value):Fr2 B a b W (W'.setCell ⟨g,j,none⟩ v) :=
 ⟨h.1.setCell (p:=⟨g,j,none⟩) hB v,fun k h1 h2 hl => (Below.heap_setCell _ _ _ _ (by simp;omega)).trans (h.2 k h1 h2 hl)⟩
theorem Arr.fr2 {W W':World} {B a b g n:Nat} {t:TypeId} {xs:List Value} (h:Arr W g n t xs) (f:Fr2 B a b W W') (ha:g ≠ a) (hb:g ≠ b):Arr W' g n t xs:=h.same (f.2 g ha hb h.lt)
theorem Fr2.cell {B a b g o:Nat} {W W':World} {v:Value} (h:Fr2 B a b W W') (ha:g ≠ a) (hb:g ≠ b) (hc:W.cell? ⟨g,o,none⟩ = some v):W'.cell? ⟨g,o,none⟩ = some v :=
 (cell_heap (p:=⟨g,o,none⟩) (h.2 g ha hb (World.block_lt_of_cell? W _ hc))).trans hc
theorem Fr2.only {B a b g:Nat} {W W' W'':World} (h:Fr2 B a b W W') (o:Only g W' W'') (hB:B ≤ g) (hg:g = a ∨ g = b ∨ W.heap.size ≤ g):Fr2 B a b W W'' :=
 ⟨h.1.trans (o.1.mono hB),fun k h1 h2 hl => (o.2 k (by omega)).trans (h.2 k h1 h2 hl)⟩
end Go.Proofs.YtmfihlcibephlaaDoor
