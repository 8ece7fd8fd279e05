/- A frame is read as it was written: plain lists. -/
import Derived.Test.YthgcmcdacejelaaDoorUPlain
namespace Go.Proofs.YthgcmcdacejelaaDoor
theorem fix3 (n : Nat) : fixB 3 n = [UInt8.ofNat (n % 256), UInt8.ofNat (n / 256 % 256), UInt8.ofNat (n / 256 / 256 % 256)] := rfl
theorem headB_cons (k : Nat) (l : List UInt8) : headB k l = 3 :: UInt8.ofNat (k % 256) :: (fixB 3 l.length ++ l) := by
  simp [headB]
theorem sz_frame (k : Nat) (l : List UInt8) (h : l.length ≤ 131072) : sz (frameB k l) = l.length := by
  unfold sz frameB
  rw [headB_cons, fix3]
  have e : (((3 : UInt8) :: UInt8.ofNat (k % 256) :: ([UInt8.ofNat (l.length % 256), UInt8.ofNat (l.length / 256 % 256), UInt8.ofNat (l.length / 256 / 256 % 256)] ++ l) ++ fixB 4 (Crc.sum (3 :: UInt8.ofNat (k % 256) :: ([UInt8.ofNat (l.length % 256), UInt8.ofNat (l.length / 256 % 256), UInt8.ofNat (l.length / 256 / 256 % 256)] ++ l)))).drop 2).take 3 = fixB 3 l.length := by
    rw [fix3]; rfl
  rw [e]
  exact unfix_fixB 3 _ (by
    have : (256 : Nat) ^ 3 = 16777216 := rfl
    omega)
theorem take_frame (k : Nat) (l : List UInt8) : (frameB k l).take (l.length + 5) = headB k l := by
  unfold frameB
  rw [← headB_length k l]
  exact List.take_left
theorem drop_frame (k : Nat) (l : List UInt8) : (frameB k l).drop (l.length + 5) = fixB 4 (Crc.sum (headB k l)) := by
  unfold frameB
  rw [← headB_length k l]
  exact List.drop_left
theorem content_frame (k : Nat) (l : List UInt8) : ((frameB k l).drop 5).take l.length = l := by
  unfold frameB
  rw [headB_cons, fix3]
  show ((l ++ fixB 4 _).take l.length) = l
  exact List.take_left
theorem first_frame (k : Nat) (l : List UInt8) : ((frameB k l).getD 0 0).toNat = 3 := by
  unfold frameB
  rw [headB_cons]
  rfl
theorem kind_frame (k : Nat) (l : List UInt8) (h : k ≤ 255) : ((frameB k l).getD 1 0).toNat = k := by
  unfold frameB
  rw [headB_cons]
  show (UInt8.ofNat (k % 256)).toNat = k
  rw [ofNat_toNat (by omega)]
  omega
theorem unE_frame (k : Nat) (l : List UInt8) (h : l.length ≤ 131072) : unE (frameB k l) = 0 := by
  unfold unE
  rw [if_neg (by rw [frameB_length]; omega), sz_frame k l h, if_pos ⟨first_frame k l, h⟩, if_neg (by rw [frameB_length]; omega), if_neg (by rw [frameB_length]; omega), if_pos]
  rw [take_frame, drop_frame]
  exact unfix_fixB 4 _ (by
    have h1 : (256 : Nat) ^ 4 = 4294967296 := rfl
    have := Crc.sum_lt (headB k l)
    omega)
theorem unK_frame (k : Nat) (l : List UInt8) (h : l.length ≤ 131072) (hk : k ≤ 255) : unK (frameB k l) = (k : Int) := by
  unfold unK
  rw [if_pos (unE_frame k l h), kind_frame k l hk]
theorem unC_frame (k : Nat) (l : List UInt8) (h : l.length ≤ 131072) : unC (frameB k l) = l := by
  unfold unC
  rw [if_pos (unE_frame k l h), sz_frame k l h, content_frame]
end Go.Proofs.YthgcmcdacejelaaDoor
