/-
  The sum of a text as numbers: words, rounds, blocks, bytes (no program in it).
-/
import Derived.Test.YtgpnhdnncfpbcaaDoorShaPlain
namespace Go.Proofs.YtgpnhdnncfpbcaaDoor.Sh
/-- a block's words -/
def wordP (g : Nat → Nat) (i : Nat) : Nat → Nat
  | 0 => 0
  | j + 1 => 256 * wordP g i j + g (4 * i + j)
theorem wordP_lt (g : Nat → Nat) (hg : ∀ q, g q < 256) (i : Nat) : ∀ j, wordP g i j < 256 ^ j
  | 0 => by simp [wordP]
  | j + 1 => by
    have := wordP_lt g hg i j
    have := hg (4 * i + j)
    rw [wordP, Nat.pow_succ]
    omega
def sg0 (x : Nat) : Nat := turnN x 7 ^^^ turnN x 18 ^^^ shiftN x 3
def sg1 (x : Nat) : Nat := turnN x 17 ^^^ turnN x 19 ^^^ shiftN x 10
def nextW (g : Nat → Nat) (l : List Nat) (k : Nat) : Nat :=
  if k < 16 then wordP g k 4 else (l.getD (k - 16) 0 + sg0 (l.getD (k - 15) 0) + l.getD (k - 7) 0 + sg1 (l.getD (k - 2) 0)) % 4294967296
def schW (g : Nat → Nat) : Nat → List Nat
  | 0 => []
  | k + 1 => schW g k ++ [nextW g (schW g k) k]
theorem schW_length (g : Nat → Nat) : ∀ k, (schW g k).length = k
  | 0 => rfl
  | k + 1 => by rw [schW, List.length_append, schW_length g k]; rfl
theorem nextW_lt (g : Nat → Nat) (hg : ∀ q, g q < 256) (l : List Nat) (k : Nat) : nextW g l k < 4294967296 := by
  unfold nextW
  split
  · exact wordP_lt g hg k 4
  · exact Nat.mod_lt _ (by omega)
theorem schW_lt (g : Nat → Nat) (hg : ∀ q, g q < 256) : ∀ k, ∀ x ∈ schW g k, x < 4294967296
  | 0, x, h => by cases h
  | k + 1, x, h => by
    rw [schW] at h
    rcases List.mem_append.1 h with h | h
    · exact schW_lt g hg k x h
    · rw [List.mem_singleton.1 h]; exact nextW_lt g hg _ _
theorem getD_lt {l : List Nat} (h : ∀ x ∈ l, x < 4294967296) (j : Nat) : l.getD j 0 < 4294967296 := by
  by_cases hj : j < l.length
  · rw [List.getD, List.getElem?_eq_getElem hj]; exact h _ (List.getElem_mem hj)
  · rw [List.getD, List.getElem?_eq_none (by omega)]; decide
theorem xor3_lt {a b c : Nat} (ha : a < 4294967296) (hb : b < 4294967296) (hc : c < 4294967296) : a ^^^ b ^^^ c < 4294967296 :=
  Nat.xor_lt_two_pow (n := 32) (Nat.xor_lt_two_pow (n := 32) ha hb) hc
theorem shiftN_lt (x n : Nat) (h : x < 4294967296) : shiftN x n < 4294967296 := by rw [shiftN_eq]; exact Nat.lt_of_le_of_lt (Nat.div_le_self _ _) h
theorem sg0_lt (x : Nat) (h : x < 4294967296) : sg0 x < 4294967296 := xor3_lt (turnN_lt _ _ h) (turnN_lt _ _ h) (shiftN_lt _ _ h)
theorem sg1_lt (x : Nat) (h : x < 4294967296) : sg1 x < 4294967296 := xor3_lt (turnN_lt _ _ h) (turnN_lt _ _ h) (shiftN_lt _ _ h)

theorem kN_lt (k : Nat) : kN k < 4294967296 := getD_lt (by decide +kernel) k
/-- a round -/
def bs1 (e : Nat) : Nat := turnN e 6 ^^^ turnN e 11 ^^^ turnN e 25
def bs0 (a : Nat) : Nat := turnN a 2 ^^^ turnN a 13 ^^^ turnN a 22
def pickN (e f g : Nat) : Nat := (e &&& f) ||| ((4294967295 - e) &&& g)
def mostN (a b c : Nat) : Nat := (a &&& b) ||| (a &&& c) ||| (b &&& c)
theorem bs1_lt (x : Nat) (h : x < 4294967296) : bs1 x < 4294967296 := xor3_lt (turnN_lt _ _ h) (turnN_lt _ _ h) (turnN_lt _ _ h)
theorem bs0_lt (x : Nat) (h : x < 4294967296) : bs0 x < 4294967296 := xor3_lt (turnN_lt _ _ h) (turnN_lt _ _ h) (turnN_lt _ _ h)
theorem pickN_lt (e f g : Nat) (he : e < 4294967296) : pickN e f g < 4294967296 :=
  Nat.or_lt_two_pow (n := 32) (Nat.lt_of_le_of_lt Nat.and_le_left he) (Nat.lt_of_le_of_lt Nat.and_le_left (by omega))
theorem mostN_lt (a b c : Nat) (ha : a < 4294967296) (hb : b < 4294967296) : mostN a b c < 4294967296 :=
  Nat.or_lt_two_pow (n := 32) (Nat.or_lt_two_pow (n := 32) (Nat.lt_of_le_of_lt Nat.and_le_left ha) (Nat.lt_of_le_of_lt Nat.and_le_left ha)) (Nat.lt_of_le_of_lt Nat.and_le_left hb)
def xN (k w e f g h : Nat) : Nat := (h + bs1 e + pickN e f g + k + w) % 4294967296
def yN (a b c : Nat) : Nat := (bs0 a + mostN a b c) % 4294967296
def roundL (k w : Nat) (v : List Nat) : List Nat :=
  [(xN k w (v.getD 4 0) (v.getD 5 0) (v.getD 6 0) (v.getD 7 0) + yN (v.getD 0 0) (v.getD 1 0) (v.getD 2 0)) % 4294967296, v.getD 0 0, v.getD 1 0, v.getD 2 0,
    (v.getD 3 0 + xN k w (v.getD 4 0) (v.getD 5 0) (v.getD 6 0) (v.getD 7 0)) % 4294967296, v.getD 4 0, v.getD 5 0, v.getD 6 0]
def runL (ws : List Nat) (h : List Nat) : Nat → List Nat
  | 0 => h
  | k + 1 => roundL (kN k) (ws.getD k 0) (runL ws h k)
theorem runL_length (ws h : List Nat) (hh : h.length = 8) : ∀ k, (runL ws h k).length = 8
  | 0 => hh
  | _ + 1 => rfl
theorem runL_lt (ws h : List Nat) (hh : ∀ x ∈ h, x < 4294967296) : ∀ k, ∀ x ∈ runL ws h k, x < 4294967296
  | 0 => hh
  | k + 1 => by
    have ih := fun j => getD_lt (runL_lt ws h hh k) j
    intro x hx
    simp only [runL, roundL, List.mem_cons, List.not_mem_nil, or_false] at hx
    rcases hx with rfl | rfl | rfl | rfl | rfl | rfl | rfl | rfl <;> first | exact ih _ | exact Nat.mod_lt _ (by omega)
/-- the state behind a block -/
def addK (h v : List Nat) (k : Nat) : List Nat := (List.range k).map fun i => (h.getD i 0 + v.getD i 0) % 4294967296
def blockL (g : Nat → Nat) (h : List Nat) : List Nat := addK h (runL (schW g 64) h 64) 8
theorem addK_snoc (h v : List Nat) (k : Nat) : addK h v (k + 1) = addK h v k ++ [(h.getD k 0 + v.getD k 0) % 4294967296] := by simp [addK, List.range_succ]
theorem addK_length (h v : List Nat) (k : Nat) : (addK h v k).length = k := by simp [addK]
theorem addK_lt (h v : List Nat) (k : Nat) : ∀ x ∈ addK h v k, x < 4294967296 := by
  intro x hx
  simp only [addK, List.mem_map] at hx
  obtain ⟨_, _, rfl⟩ := hx
  exact Nat.mod_lt _ (by omega)
/-- .. word by word -/
def addM (h v : List Nat) (j : Nat) : List Nat := (List.range 8).map fun i => if i < j then (h.getD i 0 + v.getD i 0) % 4294967296 else h.getD i 0
theorem addM_length (h v : List Nat) (j : Nat) : (addM h v j).length = 8 := by simp [addM]
theorem addM_zero (h v : List Nat) (hh : h.length = 8) : addM h v 0 = h := by
  apply List.ext_getElem
  · rw [addM_length, hh]
  · intro i h1 h2
    simp [addM, List.getD, h2]
theorem addM_all (h v : List Nat) : addM h v 8 = addK h v 8 := by
  unfold addM addK
  apply List.map_congr_left
  intro i hi
  rw [if_pos (List.mem_range.1 hi)]
theorem addM_getD (h v : List Nat) (j : Nat) (hj : j < 8) : (addM h v j).getD j 0 = h.getD j 0 := by simp [addM, List.getD, hj]
theorem addM_set (h v : List Nat) (j : Nat) (hj : j < 8) : (addM h v j).set j ((h.getD j 0 + v.getD j 0) % 4294967296) = addM h v (j + 1) := by
  apply List.ext_getElem
  · simp [addM_length]
  · intro i h1 h2
    rw [addM_length] at h2
    by_cases e : i = j
    · subst e; simp [addM]
    · rw [List.getElem_set_ne (by omega)]
      have : i < j + 1 ↔ i < j := by omega
      simp [addM, this]
theorem eight (l : List Nat) (h : l.length = 8) : ∃ x0 x1 x2 x3 x4 x5 x6 x7, l = [x0, x1, x2, x3, x4, x5, x6, x7] := by
  match l, h with
  | [x0, x1, x2, x3, x4, x5, x6, x7], _ => exact ⟨_, _, _, _, _, _, _, _, rfl⟩
/-- how many zeros fill a text up; the filled text -/
def zerosN (n : Nat) : Nat := (119 - n % 64) % 64
def fillK (l : List UInt8) (k : Nat) : List UInt8 := l ++ [128] ++ List.replicate k 0
def beK (N k : Nat) : List UInt8 := ((List.range k).map fun j => UInt8.ofNat (N / 256 ^ j % 256)).reverse
def fillL (l : List UInt8) : List UInt8 := fillK l (zerosN l.length) ++ beK (8 * l.length) 8
theorem fillK_snoc (l : List UInt8) (k : Nat) : fillK l (k + 1) = fillK l k ++ [0] := by
  simp [fillK, List.replicate_succ']
theorem fillK_length (l : List UInt8) (k : Nat) : (fillK l k).length = l.length + 1 + k := by simp [fillK]; omega
theorem beK_snoc (N k : Nat) : beK N (k + 1) = [UInt8.ofNat (N / 256 ^ k % 256)] ++ beK N k := by
  simp [beK, List.range_succ]
theorem beK_length (N k : Nat) : (beK N k).length = k := by simp [beK]
theorem fillL_length (l : List UInt8) : (fillL l).length = l.length + 9 + zerosN l.length := by simp [fillL, fillK_length, beK_length]; omega
theorem fillL_mod (l : List UInt8) : (fillL l).length % 64 = 0 := by rw [fillL_length]; unfold zerosN; omega
/-- the state at the start, and behind k blocks of a text -/
def start : List Nat := [1779033703, 3144134277, 1013904242, 2773480762, 1359893119, 2600822924, 528734635, 1541459225]
def byteK (t : List UInt8) (k q : Nat) : Nat := (t.getD (64 * k + q) 0).toNat
def hashK (t : List UInt8) : Nat → List Nat
  | 0 => start
  | k + 1 => blockL (byteK t k) (hashK t k)
/-- .. from whatever state on -/
def mixK (t : List UInt8) (h : List Nat) : Nat → List Nat
  | 0 => h
  | k + 1 => blockL (byteK t k) (mixK t h k)
theorem mixK_start (t : List UInt8) : ∀ k, mixK t start k = hashK t k
  | 0 => rfl
  | k + 1 => by rw [mixK, hashK, mixK_start t k]
theorem mixK_length (t : List UInt8) (h : List Nat) (hh : h.length = 8) : ∀ k, (mixK t h k).length = 8
  | 0 => hh
  | _ + 1 => addK_length _ _ _
theorem mixK_lt (t : List UInt8) (h : List Nat) (hh : ∀ x ∈ h, x < 4294967296) : ∀ k, ∀ x ∈ mixK t h k, x < 4294967296
  | 0 => hh
  | _ + 1 => addK_lt _ _ _
theorem wordP_congr {g g' : Nat → Nat} (i : Nat) : ∀ j, (∀ q, q < 4 * i + j → g q = g' q) → wordP g i j = wordP g' i j
  | 0, _ => rfl
  | j + 1, h => by rw [wordP, wordP, wordP_congr i j (fun q hq => h q (by omega)), h _ (by omega)]
theorem schW_congr {g g' : Nat → Nat} (h : ∀ q, q < 64 → g q = g' q) : ∀ k, schW g k = schW g' k
  | 0 => rfl
  | k + 1 => by
    rw [schW, schW, schW_congr h k]
    congr 2
    unfold nextW
    split
    · exact wordP_congr k 4 (fun q hq => h q (by omega))
    · rfl
theorem blockL_congr {g g' : Nat → Nat} (h : ∀ q, q < 64 → g q = g' q) (hs : List Nat) : blockL g hs = blockL g' hs := by
  unfold blockL
  rw [schW_congr h]
/-- the state behind two texts: behind the first one, and from there on -/
theorem mixK_more (t u : List UInt8) (a : Nat) (ht : t.length = 64 * a) (h : List Nat) : ∀ b, mixK (t ++ u) h (a + b) = mixK u (mixK t h a) b
  | 0 => by
    have : ∀ k, k ≤ a → mixK (t ++ u) h k = mixK t h k := by
      intro k
      induction k with
      | zero => intro _; rfl
      | succ k ih =>
        intro hk
        rw [mixK, mixK, ih (by omega)]
        refine blockL_congr (fun q hq => ?_) _
        unfold byteK
        rw [List.getD, List.getD, List.getElem?_append_left (by omega)]
    exact this a (Nat.le_refl _)
  | b + 1 => by
    show mixK (t ++ u) h (a + b + 1) = _
    rw [mixK, mixK, mixK_more t u a ht h b]
    refine blockL_congr (fun q _ => ?_) _
    unfold byteK
    rw [List.getD, List.getD, List.getElem?_append_right (by omega), ht, show 64 * (a + b) + q - 64 * a = 64 * b + q by omega]
theorem hashK_length (t : List UInt8) : ∀ k, (hashK t k).length = 8
  | 0 => rfl
  | _ + 1 => addK_length _ _ _
theorem hashK_lt (t : List UInt8) : ∀ k, ∀ x ∈ hashK t k, x < 4294967296
  | 0 => by show ∀ x ∈ start, x < 4294967296; decide
  | _ + 1 => addK_lt _ _ _
/-- a text's byte at a place -/
def byteAt (s : ByteArray) (q : Nat) : Nat := (s.data.toList.getD q 0).toNat
theorem byteAt_lt (s : ByteArray) (q : Nat) : byteAt s q < 256 := UInt8.toNat_lt _
theorem byteAt_eq (s : ByteArray) (q : Nat) (h : q < s.size) : s[q].toNat = byteAt s q := by
  have hl : q < s.data.toList.length := by simpa using h
  unfold byteAt
  rw [List.getD, List.getElem?_eq_getElem hl]; rfl
/-- a word's byte; the bytes of the state -/
def wByte (h : List Nat) (i : Nat) : Nat := h.getD (i / 4) 0 / 256 ^ (3 - i % 4) % 256
def outK (h : List Nat) (k : Nat) : List UInt8 := (List.range k).map fun i => UInt8.ofNat (wByte h i)
theorem outK_snoc (h : List Nat) (k : Nat) : outK h (k + 1) = outK h k ++ [UInt8.ofNat (wByte h k)] := by simp [outK, List.range_succ]
theorem outK_length (h : List Nat) (k : Nat) : (outK h k).length = k := by simp [outK]
/-- the sum of a text: 32 bytes -/
def sumL (l : List UInt8) : List UInt8 := outK (hashK (fillL l) ((fillL l).length / 64)) 32
theorem sumL_length (l : List UInt8) : (sumL l).length = 32 := outK_length _ _
def abcL : List UInt8 := [0xba, 0x78, 0x16, 0xbf, 0x8f, 0x01, 0xcf, 0xea, 0x41, 0x41, 0x40, 0xde, 0x5d, 0xae, 0x22, 0x23, 0xb0, 0x03, 0x61, 0xa3, 0x96, 0x17, 0x7a, 0x9c, 0xb4, 0x10, 0xff, 0x61, 0xf2, 0x00, 0x15, 0xad]
theorem sum_abc : sumL [97, 98, 99] = abcL := by decide +kernel
end Go.Proofs.YtgpnhdnncfpbcaaDoor.Sh
