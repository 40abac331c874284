/- SHA-256, plain: what the words of a block, of a state and the bytes of a hash are. -/
import Derived.Laws.Entries
import Derived.Laws.BitsLemmas
namespace Go.Proofs.YtkjdfjpfghpofaaDoor.Sha
open Go

/-- x rotated to the right by n bits. -/
def rotI (x n : Int) : Int := bits .or .u32 (x / 2 ^ n.toNat) (x * 2 ^ (32 - n).toNat % 4294967296)
/-- The byte k of a string. -/
def byteI (s : ByteArray) (k : Nat) : Int := ((s.data.toList.getD k 0).toNat : Int)
theorem byteI_get (s : ByteArray) (k : Nat) (h : k < s.size) : ((s[k]'h).toNat : Int) = byteI s k := by
  have h' : k < s.data.toList.length := by simpa using h
  unfold byteI
  rw [List.getD_eq_getElem?_getD, List.getElem?_eq_getElem h']
  rfl
theorem byteI_lo (s : ByteArray) (k : Nat) : 0 ≤ byteI s k := by unfold byteI; omega
theorem byteI_hi (s : ByteArray) (k : Nat) : byteI s k < 256 := by
  unfold byteI; have := (s.data.toList.getD k 0).toNat_lt; omega
/-- Four bytes, the most significant one first. -/
def wordI (a b c d : Int) : Int := bits .or .u32 (bits .or .u32 (bits .or .u32 (a * 16777216 % 4294967296) (b * 65536 % 4294967296)) (c * 256 % 4294967296)) d
/-- Word k of a block of 64 bytes. -/
def blkW (s : ByteArray) (k : Nat) : Int := wordI (byteI s (4 * k)) (byteI s (4 * k + 1)) (byteI s (4 * k + 2)) (byteI s (4 * k + 3))
def sig0 (x : Int) : Int := bits .xor .u32 (bits .xor .u32 (rotI x 7) (rotI x 18)) (x / 8)
def sig1 (x : Int) : Int := bits .xor .u32 (bits .xor .u32 (rotI x 17) (rotI x 19)) (x / 1024)
/-- Word n out of those before it. -/
def ext (l : List Int) (n : Nat) : Int := (l.getD (n - 16) 0 + sig0 (l.getD (n - 15) 0) + l.getD (n - 7) 0 + sig1 (l.getD (n - 2) 0)) % 4294967296
/-- The words of a block when n of them are there. -/
def grow (s : ByteArray) : Nat → List Int
  | 0 => List.replicate 64 0
  | n + 1 => (grow s n).set n (if n < 16 then blkW s n else ext (grow s n) n)
theorem grow_length (s : ByteArray) (n : Nat) : (grow s n).length = 64 := by
  induction n with
  | zero => simp [grow]
  | succ n ih => simp [grow, ih]
theorem byteI_extract (s : ByteArray) (a b k : Nat) (h : a + k < b) : byteI (s.extract a b) k = byteI s (a + k) := by
  unfold byteI
  congr 2
  rw [List.getD_eq_getElem?_getD, List.getD_eq_getElem?_getD]
  congr 1
  simp only [ByteArray.data_extract, Array.toList_extract, List.extract_eq_take_drop, List.getElem?_take, List.getElem?_drop]
  rw [if_pos (by omega)]
theorem blkW_extract (s : ByteArray) (k : Nat) (h : k < 16) : wordI (byteI (s.extract (4 * k) 64) 0) (byteI (s.extract (4 * k) 64) 1) (byteI (s.extract (4 * k) 64) 2) (byteI (s.extract (4 * k) 64) 3) = blkW s k := by
  unfold blkW
  rw [byteI_extract s (4 * k) 64 0 (by omega), byteI_extract s (4 * k) 64 1 (by omega), byteI_extract s (4 * k) 64 2 (by omega), byteI_extract s (4 * k) 64 3 (by omega), Nat.add_zero]
theorem grow_word (s : ByteArray) (n : Nat) (h : n < 16) : (grow s n).set n (blkW s n) = grow s (n + 1) := by simp [grow, h]
theorem grow_ext (s : ByteArray) (n : Nat) (h : ¬ n < 16) : (grow s n).set n (ext (grow s n) n) = grow s (n + 1) := by simp [grow, h]
/-- The constants of the rounds: the first 32 bits behind the point of the cube roots of the first 64 prime numbers. -/
def kL : List Int := [1116352408, 1899447441, 3049323471, 3921009573, 961987163, 1508970993, 2453635748, 2870763221, 3624381080, 310598401, 607225278, 1426881987, 1925078388, 2162078206, 2614888103, 3248222580, 3835390401, 4022224774, 264347078, 604807628, 770255983, 1249150122, 1555081692, 1996064986, 2554220882, 2821834349, 2952996808, 3210313671, 3336571891, 3584528711, 113926993, 338241895, 666307205, 773529912, 1294757372, 1396182291, 1695183700, 1986661051, 2177026350, 2456956037, 2730485921, 2820302411, 3259730800, 3345764771, 3516065817, 3600352804, 4094571909, 275423344, 430227734, 506948616, 659060556, 883997877, 958139571, 1322822218, 1537002063, 1747873779, 1955562222, 2024104815, 2227730452, 2361852424, 2428436474, 2756734187, 3204031479, 3329325298]
/-- The state at the beginning: the same of the square roots of the first 8. -/
def hL : List Int := [1779033703, 3144134277, 1013904242, 2773480762, 1359893119, 2600822924, 528734635, 1541459225]
/-- A state: eight words. -/
structure S8 where
  (a b c d e f g h : Int)
def S8.list (s : S8) : List Int := [s.a, s.b, s.c, s.d, s.e, s.f, s.g, s.h]
def bigE (e : Int) : Int := bits .xor .u32 (bits .xor .u32 (rotI e 6) (rotI e 11)) (rotI e 25)
def bigA (a : Int) : Int := bits .xor .u32 (bits .xor .u32 (rotI a 2) (rotI a 13)) (rotI a 22)
def chI (e f g : Int) : Int := bits .xor .u32 (bits .and .u32 e f) (bits .and .u32 (bits .xor .u32 IntKind.u32.max e) g)
def majI (a b c : Int) : Int := bits .xor .u32 (bits .xor .u32 (bits .and .u32 a b) (bits .and .u32 a c)) (bits .and .u32 b c)
def tI (s : S8) (k w : Int) : Int := (s.h + bigE s.e + chI s.e s.f s.g + k + w) % 4294967296
def uI (s : S8) : Int := (bigA s.a + majI s.a s.b s.c) % 4294967296
/-- One round. -/
def rnd (s : S8) (k w : Int) : S8 := ⟨(tI s k w + uI s) % 4294967296, s.a, s.b, s.c, (s.d + tI s k w) % 4294967296, s.e, s.f, s.g⟩
/-- n rounds. -/
def rnds (ws : List Int) (s : S8) : Nat → S8
  | 0 => s
  | n + 1 => rnd (rnds ws s n) (kL.getD n 0) (ws.getD n 0)
/-- The words s, to the first k of which those of r have been added. -/
def addN (s r : List Int) : Nat → List Int
  | 0 => s
  | k + 1 => (addN s r k).set k (((addN s r k).getD k 0 + r.getD k 0) % 4294967296)
theorem addN_length (s r : List Int) (k : Nat) : (addN s r k).length = s.length := by
  induction k with
  | zero => rfl
  | succ k ih => simp [addN, ih]
def plus8 (s r : S8) : S8 := ⟨(s.a + r.a) % 4294967296, (s.b + r.b) % 4294967296, (s.c + r.c) % 4294967296, (s.d + r.d) % 4294967296, (s.e + r.e) % 4294967296, (s.f + r.f) % 4294967296, (s.g + r.g) % 4294967296, (s.h + r.h) % 4294967296⟩
theorem addN_all (s r : S8) : addN s.list r.list 8 = (plus8 s r).list := rfl
/-- The state behind a block. -/
def compress (s : S8) (blk : ByteArray) : S8 := plus8 s (rnds (grow blk 64) s 64)
/-- The state behind n blocks of a string. -/
def absorb (s : S8) (bs : ByteArray) : Nat → S8
  | 0 => s
  | n + 1 => compress (absorb s bs n) (bs.extract (64 * n) (64 * n + 64))
/-- The end of a message of n bits, n bytes long, when i of the last bytes have been laid. -/
def endN (n : Nat) (v : Int) : Nat → List Int
  | 0 => (List.replicate n 0).set 0 128
  | i + 1 => (endN n v i).set (n - 1 - i) (v / 2 ^ (8 * i) % 256)
theorem endN_next (z i : Nat) (v : Int) : endN (z + 9) v (i + 1) = (endN (z + 9) v i).set (z + 8 - i) (v / 2 ^ (8 * i) % 256) := rfl
theorem endN_length (n : Nat) (v : Int) (i : Nat) : (endN n v i).length = n := by
  induction i with
  | zero => simp [endN]
  | succ i ih => simp [endN, ih]
/-- How many bytes 0 follow a message of L bytes and the byte 0x80. -/
def zerosOf (L : Nat) : Nat := (119 - L % 64) % 64
/-- What follows a message of L bytes. -/
def padI (L : Nat) : List Int := 128 :: List.replicate (zerosOf L) 0 ++ [(L : Int) * 8 / 2 ^ 56 % 256, (L : Int) * 8 / 2 ^ 48 % 256, (L : Int) * 8 / 2 ^ 40 % 256, (L : Int) * 8 / 2 ^ 32 % 256, (L : Int) * 8 / 2 ^ 24 % 256, (L : Int) * 8 / 2 ^ 16 % 256, (L : Int) * 8 / 2 ^ 8 % 256, (L : Int) * 8 % 256]
theorem rep_end (z : Nat) : (List.replicate (z + 9) (0 : Int)).set 0 128 = (128 :: List.replicate z 0) ++ [0, 0, 0, 0, 0, 0, 0, 0] := by
  rw [show z + 9 = (z + 8) + 1 from rfl, List.replicate_succ, List.set_cons_zero, List.cons_append]
  congr 1
  rw [show ([0, 0, 0, 0, 0, 0, 0, 0] : List Int) = List.replicate 8 0 from rfl, List.replicate_append_replicate]
theorem set_end (A B : List Int) (n i : Nat) (x : Int) (h : A.length + i = n) : (A ++ B).set n x = A ++ B.set i x := by
  rw [List.set_append_right _ _ (by omega)]; congr 2; omega
theorem endN_pad (L : Nat) : endN (zerosOf L + 9) ((L : Int) * 8) 8 = padI L := by
  have e : (128 :: List.replicate (zerosOf L) (0 : Int)).length = zerosOf L + 1 := by simp
  simp only [endN, rep_end]
  rw [set_end _ _ _ 7 _ (by omega), set_end _ _ _ 6 _ (by omega), set_end _ _ _ 5 _ (by omega), set_end _ _ _ 4 _ (by omega), set_end _ _ _ 3 _ (by omega), set_end _ _ _ 2 _ (by omega), set_end _ _ _ 1 _ (by omega), set_end _ _ _ 0 _ (by omega)]
  simp [padI]
end Go.Proofs.YtkjdfjpfghpofaaDoor.Sha
