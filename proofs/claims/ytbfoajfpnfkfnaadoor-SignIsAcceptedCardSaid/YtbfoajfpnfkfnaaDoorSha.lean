/-
  Plain facts, no program: SHA-256 as functions on lists of numbers.
-/
set_option linter.unusedVariables false
namespace Go.Proofs.YtbfoajfpnfkfnaaDoor

/-- Rotated right. -/
def rr (x n : Nat) : Nat := (x * 2 ^ (32 - n) % 4294967296) ||| (x / 2 ^ n)
def sg0 (x : Nat) : Nat := (rr x 7 ^^^ rr x 18) ^^^ (x / 8)
def sg1 (x : Nat) : Nat := (rr x 17 ^^^ rr x 19) ^^^ (x / 1024)
def bg1 (e : Nat) : Nat := (rr e 6 ^^^ rr e 11) ^^^ rr e 25
def bg0 (a : Nat) : Nat := (rr a 2 ^^^ rr a 13) ^^^ rr a 22
def chs (e f g : Nat) : Nat := (e &&& f) ^^^ ((4294967295 - e) &&& g)
def maj (a b c : Nat) : Nat := ((a &&& b) ^^^ (a &&& c)) ^^^ (b &&& c)
/-- One word more. -/
def nextW (w : List Nat) (t : Nat) : Nat := (((w.getD (t - 16) 0 + sg0 (w.getD (t - 15) 0)) % 4294967296 + w.getD (t - 7) 0) % 4294967296 + sg1 (w.getD (t - 2) 0)) % 4294967296
def grow : Nat → List Nat → List Nat
  | 0, w => w
  | n + 1, w => let v := grow n w; v ++ [nextW v v.length]
/-- A word, the most significant byte first. -/
def word4 (b : List Nat) (i : Nat) : Nat := ((b.getD (4 * i) 0 * 256 + b.getD (4 * i + 1) 0) * 256 + b.getD (4 * i + 2) 0) * 256 + b.getD (4 * i + 3) 0
def words16 (b : List Nat) : List Nat := (List.range 16).map (word4 b)
def sched (b : List Nat) : List Nat := grow 48 (words16 b)
def kc : List Nat := [
  0x428a2f98, 0x71374491, 0xb5c0fbcf, 0xe9b5dba5, 0x3956c25b, 0x59f111f1, 0x923f82a4, 0xab1c5ed5,
  0xd807aa98, 0x12835b01, 0x243185be, 0x550c7dc3, 0x72be5d74, 0x80deb1fe, 0x9bdc06a7, 0xc19bf174,
  0xe49b69c1, 0xefbe4786, 0x0fc19dc6, 0x240ca1cc, 0x2de92c6f, 0x4a7484aa, 0x5cb0a9dc, 0x76f988da,
  0x983e5152, 0xa831c66d, 0xb00327c8, 0xbf597fc7, 0xc6e00bf3, 0xd5a79147, 0x06ca6351, 0x14292967,
  0x27b70a85, 0x2e1b2138, 0x4d2c6dfc, 0x53380d13, 0x650a7354, 0x766a0abb, 0x81c2c92e, 0x92722c85,
  0xa2bfe8a1, 0xa81a664b, 0xc24b8b70, 0xc76c51a3, 0xd192e819, 0xd6990624, 0xf40e3585, 0x106aa070,
  0x19a4c116, 0x1e376c08, 0x2748774c, 0x34b0bcb5, 0x391c0cb3, 0x4ed8aa4a, 0x5b9cca4f, 0x682e6ff3,
  0x748f82ee, 0x78a5636f, 0x84c87814, 0x8cc70208, 0x90befffa, 0xa4506ceb, 0xbef9a3f7, 0xc67178f2]
def h0 : List Nat := [0x6a09e667, 0xbb67ae85, 0x3c6ef372, 0xa54ff53a, 0x510e527f, 0x9b05688c, 0x1f83d9ab, 0x5be0cd19]
structure St where
  a : Nat
  b : Nat
  c : Nat
  d : Nat
  e : Nat
  f : Nat
  g : Nat
  h : Nat
def tx (s : St) (k w : Nat) : Nat := ((((s.h + bg1 s.e) % 4294967296 + chs s.e s.f s.g) % 4294967296 + k) % 4294967296 + w) % 4294967296
def ty (s : St) : Nat := (bg0 s.a + maj s.a s.b s.c) % 4294967296
def step (s : St) (k w : Nat) : St := ⟨(tx s k w + ty s) % 4294967296, s.a, s.b, s.c, (s.d + tx s k w) % 4294967296, s.e, s.f, s.g⟩
def rnds (w : List Nat) (s : St) : Nat → St
  | 0 => s
  | t + 1 => step (rnds w s t) (kc.getD t 0) (w.getD t 0)
def St.of (l : List Nat) : St := ⟨l.getD 0 0, l.getD 1 0, l.getD 2 0, l.getD 3 0, l.getD 4 0, l.getD 5 0, l.getD 6 0, l.getD 7 0⟩
def St.list (s : St) : List Nat := [s.a, s.b, s.c, s.d, s.e, s.f, s.g, s.h]
def add32 (x y : Nat) : Nat := (x + y) % 4294967296
/-- The hash value that a block makes of another one. -/
def comp (s b : List Nat) : List Nat := List.zipWith add32 s (rnds (sched b) (St.of s) 64).list
/-- Blocks, one after the other. -/
def runB (s : List Nat) : Nat → List Nat → List Nat
  | 0, _ => s
  | n + 1, m => runB (comp s (m.take 64)) n (m.drop 64)
def be64 (n : Nat) : List Nat := (List.range 8).map fun i => n / 2 ^ (56 - 8 * i) % 256
/-- How many zeros stand behind the byte 128. -/
def zer (n : Nat) : Nat := (119 - n % 64) % 64
def pad (m : List Nat) : List Nat := m ++ 128 :: List.replicate (zer m.length) 0 ++ be64 (8 * m.length)
def outB (s : List Nat) : List Nat := (List.range 32).map fun i => s.getD (i / 4) 0 / 2 ^ (24 - i % 4 * 8) % 256
def sha (m : List Nat) : List Nat := outB (runB h0 ((pad m).length / 64) (pad m))

theorem rr_lt (x n : Nat) (hx : x < 4294967296) (hn : n ≤ 32) : rr x n < 4294967296 := by
  unfold rr
  have h1 : x * 2 ^ (32 - n) % 4294967296 < 2 ^ 32 := Nat.mod_lt _ (by decide)
  have h2 : x / 2 ^ n < 2 ^ 32 := Nat.lt_of_le_of_lt (Nat.div_le_self _ _) hx
  exact Nat.or_lt_two_pow h1 h2
theorem xor_lt {x y : Nat} (hx : x < 4294967296) (hy : y < 4294967296) : x ^^^ y < 4294967296 := Nat.xor_lt_two_pow (n := 32) hx hy
theorem and_lt {x y : Nat} (hx : x < 4294967296) : x &&& y < 4294967296 := Nat.lt_of_le_of_lt Nat.and_le_left hx
theorem m32 (x : Nat) : x % 4294967296 < 4294967296 := Nat.mod_lt _ (by decide)
theorem sg0_lt {x : Nat} (hx : x < 4294967296) : sg0 x < 4294967296 := xor_lt (xor_lt (rr_lt x 7 hx (by decide)) (rr_lt x 18 hx (by decide))) (by omega)
theorem sg1_lt {x : Nat} (hx : x < 4294967296) : sg1 x < 4294967296 := xor_lt (xor_lt (rr_lt x 17 hx (by decide)) (rr_lt x 19 hx (by decide))) (by omega)
theorem bg1_lt {x : Nat} (hx : x < 4294967296) : bg1 x < 4294967296 := xor_lt (xor_lt (rr_lt x 6 hx (by decide)) (rr_lt x 11 hx (by decide))) (rr_lt x 25 hx (by decide))
theorem bg0_lt {x : Nat} (hx : x < 4294967296) : bg0 x < 4294967296 := xor_lt (xor_lt (rr_lt x 2 hx (by decide)) (rr_lt x 13 hx (by decide))) (rr_lt x 22 hx (by decide))
theorem chs_lt {e f g : Nat} (he : e < 4294967296) : chs e f g < 4294967296 := xor_lt (and_lt he) (and_lt (by omega))
theorem maj_lt {a b c : Nat} (ha : a < 4294967296) (hb : b < 4294967296) : maj a b c < 4294967296 := xor_lt (xor_lt (and_lt ha) (and_lt ha)) (and_lt hb)
theorem nextW_lt (w : List Nat) (t : Nat) : nextW w t < 4294967296 := m32 _

/-- All words. -/
def AllW (l : List Nat) : Prop := ∀ x ∈ l, x < 4294967296
def AllB (l : List Nat) : Prop := ∀ x ∈ l, x < 256
theorem getD_lt {l : List Nat} {B : Nat} (h : ∀ x ∈ l, x < B) (hB : 0 < B) (i : Nat) : l.getD i 0 < B := by
  rw [List.getD_eq_getElem?_getD]
  by_cases hi : i < l.length
  · rw [List.getElem?_eq_getElem hi]; exact h _ (List.getElem_mem hi)
  · rw [List.getElem?_eq_none (by omega)]; exact hB
theorem grow_len (n : Nat) (w : List Nat) : (grow n w).length = w.length + n := by
  induction n with
  | zero => rfl
  | succ n ih => show (grow n w ++ [_]).length = _; rw [List.length_append, ih]; rfl
theorem grow_succ (n : Nat) (w : List Nat) : grow (n + 1) w = grow n w ++ [nextW (grow n w) (w.length + n)] := by
  show grow n w ++ [nextW (grow n w) (grow n w).length] = _
  rw [grow_len]
theorem grow_all (n : Nat) {w : List Nat} (h : AllW w) : AllW (grow n w) := by
  induction n with
  | zero => exact h
  | succ n ih =>
    rw [grow_succ]
    intro x hx
    rcases List.mem_append.1 hx with hx | hx
    · exact ih x hx
    · rw [List.mem_singleton] at hx; subst hx; exact nextW_lt _ _
theorem word4_lt {b : List Nat} (h : AllB b) (i : Nat) : word4 b i < 4294967296 := by
  have h0 := getD_lt h (by decide) (4 * i)
  have h1 := getD_lt h (by decide) (4 * i + 1)
  have h2 := getD_lt h (by decide) (4 * i + 2)
  have h3 := getD_lt h (by decide) (4 * i + 3)
  unfold word4; omega
theorem words16_all {b : List Nat} (h : AllB b) : AllW (words16 b) := by
  intro x hx
  obtain ⟨i, _, rfl⟩ := List.mem_map.1 hx
  exact word4_lt h i
theorem words16_len (b : List Nat) : (words16 b).length = 16 := by simp [words16]
theorem sched_len (b : List Nat) : (sched b).length = 64 := by rw [sched, grow_len, words16_len]
theorem sched_all {b : List Nat} (h : AllB b) : AllW (sched b) := grow_all 48 (words16_all h)
theorem kc_len : kc.length = 64 := rfl
theorem kc_all : AllW kc := by unfold AllW kc; decide
theorem h0_all : AllW h0 := by unfold AllW h0; decide
structure St.Ok (s : St) : Prop where
  a : s.a < 4294967296
  b : s.b < 4294967296
  c : s.c < 4294967296
  d : s.d < 4294967296
  e : s.e < 4294967296
  f : s.f < 4294967296
  g : s.g < 4294967296
  h : s.h < 4294967296
theorem step_ok {s : St} (h : s.Ok) (k w : Nat) : (step s k w).Ok := ⟨m32 _, h.a, h.b, h.c, m32 _, h.e, h.f, h.g⟩
theorem rnds_ok {s : St} (w : List Nat) (h : s.Ok) : ∀ t, (rnds w s t).Ok
  | 0 => h
  | t + 1 => step_ok (rnds_ok w h t) _ _
theorem of_ok {l : List Nat} (h : AllW l) : (St.of l).Ok := ⟨getD_lt h (by decide) 0, getD_lt h (by decide) 1, getD_lt h (by decide) 2, getD_lt h (by decide) 3, getD_lt h (by decide) 4, getD_lt h (by decide) 5, getD_lt h (by decide) 6, getD_lt h (by decide) 7⟩
theorem comp_len {s : List Nat} (b : List Nat) (h : s.length = 8) : (comp s b).length = 8 := by simp [comp, St.list, h]
theorem comp_all {s : List Nat} (b : List Nat) : AllW (comp s b) := by
  intro x hx
  unfold comp at hx
  rw [List.mem_iff_getElem] at hx
  obtain ⟨i, hi, rfl⟩ := hx
  rw [List.getElem_zipWith]
  exact m32 _
theorem runB_len (n : Nat) : ∀ {s : List Nat} (m : List Nat), s.length = 8 → (runB s n m).length = 8 := by
  induction n with
  | zero => intro s m h; exact h
  | succ n ih => intro s m h; exact ih _ (comp_len _ h)
theorem runB_all (n : Nat) : ∀ {s : List Nat} (m : List Nat), AllW s → AllW (runB s n m) := by
  induction n with
  | zero => intro s m h; exact h
  | succ n ih => intro s m h; exact ih _ (comp_all _)
/-- Only the blocks are read. -/
theorem runB_app (n : Nat) : ∀ (s m x : List Nat), 64 * n ≤ m.length → runB s n (m ++ x) = runB s n m := by
  induction n with
  | zero => intros; rfl
  | succ n ih =>
    intro s m x h
    show runB (comp s ((m ++ x).take 64)) n ((m ++ x).drop 64) = runB (comp s (m.take 64)) n (m.drop 64)
    rw [List.take_append_of_le_length (by omega), List.drop_append_of_le_length (by omega)]
    exact ih _ _ _ (by rw [List.length_drop]; omega)
theorem runB_add (n k : Nat) : ∀ (s m : List Nat), runB s (n + k) m = runB (runB s n m) k (m.drop (64 * n)) := by
  induction n with
  | zero => intro s m; simp [runB]
  | succ n ih =>
    intro s m
    rw [show n + 1 + k = (n + k) + 1 from by omega]
    show runB (comp s (m.take 64)) (n + k) (m.drop 64) = runB (runB (comp s (m.take 64)) n (m.drop 64)) k (m.drop (64 * (n + 1)))
    rw [ih, List.drop_drop]
    congr 2
    omega
theorem runB_one (s b : List Nat) (h : b.length = 64) : runB s 1 b = comp s b := by
  show comp s (b.take 64) = _
  rw [List.take_of_length_le (by omega)]

/-- What a stream holds whose message is m: the hash value behind the full blocks, what follows them and zeros. -/
def sWords (m : List Nat) : List Nat := runB h0 (m.length / 64) m
def sRest (m : List Nat) : List Nat := m.drop (64 * (m.length / 64))
def sBlock (m : List Nat) : List Nat := sRest m ++ List.replicate (64 - m.length % 64) 0
theorem sRest_len (m : List Nat) : (sRest m).length = m.length % 64 := by
  unfold sRest; rw [List.length_drop]; omega
theorem sBlock_len (m : List Nat) : (sBlock m).length = 64 := by
  unfold sBlock; rw [List.length_append, sRest_len, List.length_replicate]; omega
theorem sWords_len (m : List Nat) : (sWords m).length = 8 := runB_len _ _ rfl
theorem sWords_all (m : List Nat) : AllW (sWords m) := runB_all _ _ h0_all
theorem sRest_all {m : List Nat} (h : AllB m) : AllB (sRest m) := fun x hx => h x (List.mem_of_mem_drop hx)
theorem sBlock_all {m : List Nat} (h : AllB m) : AllB (sBlock m) := by
  intro x hx
  rcases List.mem_append.1 hx with hx | hx
  · exact sRest_all h x hx
  · rw [(List.mem_replicate.1 hx).2]; decide
theorem sWords_nil : sWords [] = h0 := rfl
theorem sBlock_nil : sBlock [] = List.replicate 64 0 := rfl
/-- A piece that does not fill the block. -/
theorem sAdd_part (m x : List Nat) (h : m.length % 64 + x.length < 64) : sWords (m ++ x) = sWords m ∧ sBlock (m ++ x) = sRest m ++ x ++ List.replicate (64 - m.length % 64 - x.length) 0 := by
  have hq : (m ++ x).length / 64 = m.length / 64 := by rw [List.length_append]; omega
  have hr : (m ++ x).length % 64 = m.length % 64 + x.length := by rw [List.length_append]; omega
  refine ⟨?_, ?_⟩
  · unfold sWords
    rw [hq, runB_app _ _ _ _ (by omega)]
  · unfold sBlock sRest
    rw [hq, hr, List.drop_append_of_le_length (by omega)]
    congr 2; omega
/-- A piece that fills it. -/
theorem sAdd_full (m x : List Nat) (h : m.length % 64 + x.length = 64) : sWords (m ++ x) = comp (sWords m) (sRest m ++ x) ∧ sBlock (m ++ x) = List.replicate 64 0 := by
  have hq : (m ++ x).length / 64 = m.length / 64 + 1 := by rw [List.length_append]; omega
  have hr : (m ++ x).length % 64 = 0 := by rw [List.length_append]; omega
  refine ⟨?_, ?_⟩
  · unfold sWords sRest
    rw [hq, runB_add, runB_app _ _ _ _ (by omega), List.drop_append_of_le_length (by omega), runB_one]
    rw [List.length_append, List.length_drop]; omega
  · unfold sBlock sRest
    rw [hq, hr, List.drop_of_length_le (by rw [List.length_append]; omega)]
    rfl
/-- The last blocks. -/
theorem pad_len (m : List Nat) : (pad m).length = m.length + 1 + zer m.length + 8 := by
  unfold pad be64
  rw [List.length_append, List.length_append, List.length_cons, List.length_replicate, List.length_map, List.length_range]
  omega
theorem sha_one (m : List Nat) (h : m.length % 64 < 56) : sha m = outB (comp (sWords m) (sRest m ++ 128 :: List.replicate (55 - m.length % 64) 0 ++ be64 (8 * m.length))) := by
  unfold sha
  have hz : zer m.length = 55 - m.length % 64 := by unfold zer; omega
  have hl : (pad m).length / 64 = m.length / 64 + 1 := by rw [pad_len, hz]; omega
  rw [hl, runB_add]
  unfold pad
  rw [List.append_assoc, List.append_assoc, runB_app _ _ _ _ (by omega), List.drop_append_of_le_length (by omega), runB_one]
  · unfold sWords sRest
    rw [hz]
  · rw [List.length_append, List.length_drop]; simp [be64, hz]; omega
theorem runB_end2 (m b c : List Nat) (h1 : (sRest m ++ b).length = 64) (h2 : c.length = 64) : runB h0 (m.length / 64 + (1 + 1)) (m ++ (b ++ c)) = comp (comp (sWords m) (sRest m ++ b)) c := by
  have hd : (m ++ (b ++ c)).drop (64 * (m.length / 64)) = (sRest m ++ b) ++ c := by
    rw [List.drop_append_of_le_length (by omega), List.append_assoc]; rfl
  rw [runB_add, runB_app _ _ _ _ (by omega), hd, runB_add, runB_app 1 _ _ _ (by omega), runB_one _ _ h1, List.drop_append_of_le_length (by omega), List.drop_of_length_le (by omega), List.nil_append, runB_one _ _ h2]
  rfl
theorem sha_two (m : List Nat) (h : 56 ≤ m.length % 64) : sha m = outB (comp (comp (sWords m) (sRest m ++ 128 :: List.replicate (63 - m.length % 64) 0)) (List.replicate 56 0 ++ be64 (8 * m.length))) := by
  unfold sha
  have hz : zer m.length = (63 - m.length % 64) + 56 := by unfold zer; omega
  have hl : (pad m).length / 64 = m.length / 64 + (1 + 1) := by rw [pad_len, hz]; omega
  have hp : pad m = m ++ ((128 :: List.replicate (63 - m.length % 64) 0) ++ (List.replicate 56 0 ++ be64 (8 * m.length))) := by
    unfold pad
    rw [hz, ← List.replicate_append_replicate]; simp
  rw [hl, hp, runB_end2]
  · rw [List.length_append, sRest_len, List.length_cons, List.length_replicate]; omega
  · rw [List.length_append, List.length_replicate]; rfl
theorem outB_len (s : List Nat) : (outB s).length = 32 := by simp [outB]
theorem outB_all (s : List Nat) : AllB (outB s) := by
  intro x hx
  obtain ⟨i, _, rfl⟩ := List.mem_map.1 hx
  exact Nat.mod_lt _ (by decide)
theorem sha_len (m : List Nat) : (sha m).length = 32 := outB_len _
theorem sha_all (m : List Nat) : AllB (sha m) := outB_all _
end Go.Proofs.YtbfoajfpnfkfnaaDoor
