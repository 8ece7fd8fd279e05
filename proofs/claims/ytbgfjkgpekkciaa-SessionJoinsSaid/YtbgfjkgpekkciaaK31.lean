/- glebelaw09: Light, both, Same, knows. -/
import Derived.Test.YtbgfjkgpekkciaaK22
import Derived.Test.YtbgfjkgpekkciaaK26
import Derived.Test.YtbgfjkgpekkciaaK30
namespace Go.Proofs.Ytbgfjkgpekkciaa
open Go.RowKit
set_option linter.unusedVariables false
set_option linter.unusedSimpArgs false
/-- What a law is handed: a client, a Seq, an answer. -/
structure SC where
  c : Int
  s : Int
  er : Int
  fd : Bool
  val : ByteArray
  ver : Int
def encSC (a : SC) : List Value := [.int .i64 a.c, .int .i64 a.s, .int .i64 a.er, .bool a.fd, .string a.val, .int .i64 a.ver]
def SC.row (a : SC) : SR := ⟨a.er, a.fd, a.val, a.ver, a.s⟩
def smallB (a : SC) : Bool := decide ((a.val.size : Int) ≤ 300)
def lightB (A : List SC) : Bool := (A.take 60).all smallB && decide (A.length ≤ 50)
def noteRow (L : STab) (a : SC) : STab := notedT L a.c a.row
def playT (A : List SC) : STab := A.foldl noteRow tab0
theorem playT_next {A : List SC} {k : Nat} {a : SC} (h : A[k]? = some a) : playT (A.take (k + 1)) = noteRow (playT (A.take k)) a := by
  unfold playT
  rw [List.take_add_one, h, List.foldl_append]
  rfl
theorem noteRow_ok {L : STab} (h : tabOk L) (a : SC) : tabOk (noteRow L a) := by
  unfold noteRow notedT
  split
  · next hz =>
    refine ⟨len_set h.1 _ _, fun r hr => ?_⟩
    rcases List.mem_or_eq_of_mem_set hr with hr | rfl
    · exact h.2 r hr
    · obtain ⟨_, hk, hok⟩ := noteT_zero hz
      refine .inr ⟨?_, hok⟩
      have hb : (cliB a.c && seqB a.row.seq) = true := by
        cases h : cliB a.c && seqB a.row.seq with
        | true => rfl
        | false => rw [(lookT_zero L a.c a.row.seq).2 h] at hk; cases hk
      exact (seqB_iff _).1 (Bool.and_eq_true_iff.1 hb).2
  · exact h
theorem playT_ok (A : List SC) : tabOk (playT A) := by
  unfold playT
  have : ∀ (A : List SC) (L : STab), tabOk L → tabOk (A.foldl noteRow L) := by
    intro A
    induction A with
    | nil => intro L h; exact h
    | cons a A ih => intro L h; exact ih _ (noteRow_ok h a)
  exact this A _ tab0_ok
theorem num9_any (k : Int) (w : World) : Calls Try.prog 12 #[.int .i64 k] w fun e w' => e = .returned (.int .i64 k) ∧ w = w' := by
  go_enter Try.func12, Try.ntmps12
  go_wp2
  go_ret
  exact ⟨rfl, rfl⟩
/-- Note, whatever it answers. -/
theorem tnote_any {w : World} {g : Nat} {L L' : STab} (h : PTab w g L) {c : Int} {a : SR} {r : Int} (hr : noteT L c a.seq (ansB a.er a.fd a.val a.ver) = r) (hL : notedT L c a = L') :
    Calls Try.prog 20 #[.pointer (some ⟨g, 0, none⟩), .int .i64 c, .int .i64 a.seq, .agg #[.int .i64 a.er, .bool a.fd, .string a.val, .int .i64 a.ver]] w (NotePost g r L' w) := by
  subst hL
  unfold notedT
  by_cases h0 : r = 0
  · subst h0
    rw [if_pos hr]
    exact note_yes h hr
  · rw [hr, if_neg h0]
    exact note_no h rfl hr h0
section
variable {B len cap : Nat} {v : Value} {A : List SC} {w : World}
theorem light_any (hA : LentE encSC 6 B w v A) {b : Bool} (hb : lightB A = b) : Calls Try.prog 18 #[v] w fun e w' => e = .returned (.bool b) ∧ w = w' := by
  obtain ⟨a, cap, rfl, hc⟩ := hA
  obtain ⟨n, hn⟩ : ∃ n, A.length = n := ⟨_, rfl⟩
  have HN := Lib.hid hn
  have HB := Lib.hid hb
  rw [hn]
  have hc' : Hid (∀ k (hk : k < n), ∃ g off, a = some ⟨g, off, none⟩ ∧ w.cell? ⟨g, off + k * 6 + 4, none⟩ = some (.string (A[k]'(by rw [HN.out]; exact hk)).val)) := by
    intro k hk
    rcases hc with hc | ⟨g, off, ha, _, hc⟩
    · omega
    · exact ⟨g, off, ha, hc k (by rw [HN.out]; exact hk) 4 _ rfl⟩
  clear hc hn hb
  go_enter Try.func18, Try.ntmps18
  go_wp2
  go_loopw [3] (fun i wr => w = wr ∧ ∃ k : Nat, i = .int .i64 (k : Int) ∧ k ≤ n ∧ k ≤ 60 ∧ (A.take k).all smallB = true) (fun i _ => n - (intOf i).toNat)
  case atStart => exact ⟨rfl, 0, rfl, Nat.zero_le _, by omega, rfl⟩
  case round =>
    obtain ⟨rfl, k, rfl, hk, hk6, hall⟩ := hrel
    have HALL := Lib.hid hall
    clear hall
    by_cases hlt : k < n ∧ k < 60
    · obtain ⟨h1, h2⟩ := hlt
      obtain ⟨g, off, rfl, hcell⟩ := hc'.out k h1
      obtain ⟨z, hz⟩ : ∃ z, A[k]? = some z := ⟨_, List.getElem?_eq_getElem (by rw [HN.out]; exact h1)⟩
      have hzz : A[k]'(by rw [HN.out]; exact h1) = z := (List.getElem?_eq_some_iff.1 hz).2
      rw [hzz] at hcell
      have HZ := Lib.hid hz
      obtain ⟨x, hx⟩ : ∃ x, x = z.val := ⟨_, rfl⟩
      rw [← hx] at hcell
      have HX := Lib.hid hx
      clear hz hzz hx
      have h1' : (k : Int) < n := by omega
      have h2' : (k : Int) < 60 := by omega
      by_cases hs : (x.size : Int) ≤ 300
      · go_wp2
        go_roundw
        case rel =>
          refine ⟨by trivial, k + 1, by go_num, by omega, by omega, ?_⟩
          rw [List.take_add_one, HZ.out, List.all_append, HALL.out]
          simp only [Option.toList_some, List.all_cons, List.all_nil, Bool.and_true, Bool.true_and, smallB, decide_eq_true_iff]
          rw [← HX.out]
          exact hs
        case measure => simp [intOf]; omega
      · obtain rfl : b = false := by
          rw [← HB.out]
          unfold lightB
          have : (A.take 60).all smallB = false := by
            rw [List.all_eq_false]
            refine ⟨z, List.mem_of_getElem? (i := k) (by rw [List.getElem?_take, if_pos h2]; exact HZ.out), ?_⟩
            simp only [smallB, decide_eq_true_iff]
            rw [← HX.out]
            exact hs
          rw [this, Bool.false_and]
        go_wp2
        go_ret
        exact ⟨rfl, rfl⟩
    · have hall : (A.take 60).all smallB = true := by
        rw [← HALL.out]
        by_cases h60 : k = 60
        · rw [h60]
        · rw [List.take_of_length_le (by rw [HN.out]; omega), List.take_of_length_le (by rw [HN.out]; omega)]
      obtain ⟨b', hb'⟩ : ∃ b', decide ((n : Int) ≤ 50) = b' := ⟨_, rfl⟩
      obtain rfl : b' = b := by
        rw [← HB.out, ← hb']
        unfold lightB
        rw [hall, Bool.true_and, HN.out]
        rw [decide_eq_decide]
        omega
      have hlt' : ¬ ((k : Int) < n) ∨ ¬ ((k : Int) < 60) := by omega
      clear hall
      by_cases hn1 : (k : Int) < n
      · have hn2 : ¬ ((k : Int) < 60) := by omega
        go_wp2
        go_ret
        exact ⟨by simp [hb'], rfl⟩
      · go_wp2
        go_ret
        exact ⟨by simp [hb'], rfl⟩
end
end Go.Proofs.Ytbgfjkgpekkciaa
