/- Layer 1: Same of the reference; a nil decoder. -/
import Derived.Test.YtjcoeapopkkcbaaUtfPend
namespace Go.Proofs.Ytjcoeapopkkcbaa
open Go.RowKit

/-- It returns this bool, and nothing that was there has changed. -/
def BoolKept (b : Bool) (w : World) (e : Ending) (w' : World) : Prop := e = .returned (.bool b) ∧ Kept [] w w'

theorem take_eq_of {l m : List Int} {k : Nat} (h : l.take k = m.take k) (h1 : k < l.length) (h2 : k < m.length) (h3 : l[k] = m[k]) : l.take (k + 1) = m.take (k + 1) := by
  rw [take_snoc h1, take_snoc h2, h, h3]

set_option maxHeartbeats 400000 in
theorem Same_some (ab bb : Nat) (ao bo ca cb : Nat) (l m : List Int) (w : World)
    (ha : ∀ j u, (ints .i32 l)[j]? = some u → w.cell? ⟨ab, ao + j, none⟩ = some u) (hb : ∀ j u, (ints .i32 m)[j]? = some u → w.cell? ⟨bb, bo + j, none⟩ = some u)
    (hlm : l.length = m.length) (hn : l.length ≤ 1000000) :
    Calls Try.prog 10 #[.slice (some ⟨ab, ao, none⟩) l.length ca, .slice (some ⟨bb, bo, none⟩) m.length cb] w (BoolKept (decide (l = m)) w) := by
  have hlm' := hide hlm
  have hne : ((l.length : Int) != (m.length : Int)) = false := by rw [hlm]; simp
  have hm1 : m.length ≤ 1000000 := by omega
  have hml : m.length ≤ l.length := by omega
  have hlm2 : l.length ≤ m.length := by omega
  clear hlm
  go_enter Try.func10, Try.ntmps10
  go_wp2_with fail
  go_loopw [5] (fun i wr => ∃ k : Nat, k ≤ l.length ∧ i = .int .i64 k ∧ l.take k = m.take k ∧ Kept [] w wr) (fun i _ => l.length - (intOf i).toNat)
  case atStart => exact ⟨0, Nat.zero_le _, rfl, rfl, Kept.refl _ _⟩
  case round =>
    obtain ⟨k, hk, rfl, htk, hkk⟩ := hrel
    have htk' := hide htk
    clear htk
    by_cases hlt : k < l.length
    · have hltm : k < m.length := by omega
      have hca : wr.cell? ⟨ab, ao + k, none⟩ = some (.int .i32 l[k]) := hkk.cell (Rd.at ha k hlt) (by simp)
      have hcb : wr.cell? ⟨bb, bo + k, none⟩ = some (.int .i32 m[k]) := hkk.cell (Rd.at hb k hltm) (by simp)
      have q0 : (0 : Int) ≤ (k : Int) := by omega
      have q1 : (k : Int) < (l.length : Int) := by omega
      have q2 : (k : Int) < (m.length : Int) := by omega
      by_cases hx : l[k] = m[k]
      · have hts := hide (take_eq_of htk'.out hlt hltm hx)
        have hxb : (l[k] != m[k]) = false := by rw [hx]; simp
        generalize l[k] = x at *
        generalize m[k] = y at *
        clear hx
        go_wp2_with fail
        go_quiet (fail)
        go_wp2_with fail
        go_roundw
        case rel => exact ⟨k + 1, by omega, by go_num, hts.out, hkk.drewN _⟩
        case measure => simp [intOf]; omega
      · have hne : l ≠ m := by
          intro h
          subst h
          exact hx rfl
        have hres : decide (l = m) = false := by simp [hne]
        have hxb : (l[k] != m[k]) = true := by simp [hx]
        generalize l[k] = x at *
        generalize m[k] = y at *
        have hres' := hide hres
        clear hx hne hres
        go_wp2_with fail
        go_quiet (fail)
        go_wp2_with fail
        go_ret
        exact ⟨ret_bool hres'.out.symm, hkk.drewN _⟩
    · obtain rfl : k = l.length := by omega
      have heq : l = m := by
        have := htk'.out
        rw [List.take_length, hlm'.out, List.take_length] at this
        exact this
      have hres := hide (show decide (l = m) = true by simp [heq])
      clear heq
      go_wp2_with fail
      go_ret
      exact ⟨ret_bool hres.out.symm, hkk⟩

set_option maxHeartbeats 400000 in
theorem Same_nil (a b : Option Addr) (ca cb : Nat) (w : World) :
    Calls Try.prog 10 #[.slice a 0 ca, .slice b 0 cb] w (BoolKept true w) := by
  go_enter Try.func10, Try.ntmps10
  go_wp2_with fail
  refine wp_loop_rounds 1 ?_
  rw [rounds_succ]
  go_wp2_with fail
  go_ret
  exact ⟨rfl, Kept.refl _ _⟩

set_option maxHeartbeats 400000 in
theorem Same_len (a b : Option Addr) (na ca nb cb : Nat) (w : World) (h : na ≠ nb) :
    Calls Try.prog 10 #[.slice a na ca, .slice b nb cb] w (BoolKept false w) := by
  have hne : ((na : Int) != (nb : Int)) = true := by rw [bne_iff_ne]; omega
  clear h
  go_enter Try.func10, Try.ntmps10
  go_wp2_with fail
  go_ret
  exact ⟨rfl, Kept.refl _ _⟩

theorem Same_any (a b : Option Addr) (na ca nb cb : Nat) (l m : List Int) (w : World) (ha : Rd w a na 1 (ints .i32 l)) (hb : Rd w b nb 1 (ints .i32 m)) (hn : l.length ≤ 1000000) :
    Calls Try.prog 10 #[.slice a na ca, .slice b nb cb] w (BoolKept (decide (l = m)) w) := by
  have hl : na = l.length := by have := ha.1; rw [ints_len] at this; omega
  have hm : nb = m.length := by have := hb.1; rw [ints_len] at this; omega
  by_cases hne : na = nb
  · subst hl
    subst hm
    rcases ha.2 with h0 | ⟨ab, ao, rfl, hca⟩
    · have h1 : l = [] := by simpa [ints] using h0
      subst h1
      have h2 : m = [] := List.eq_nil_of_length_eq_zero hne.symm
      subst h2
      exact Same_nil a b ca cb w
    · rcases hb.2 with h0 | ⟨bb, bo, rfl, hcb⟩
      · have h1 : m = [] := by simpa [ints] using h0
        subst h1
        have h2 : l = [] := List.eq_nil_of_length_eq_zero hne
        subst h2
        exact Same_nil _ b ca cb w
      · exact Same_some ab bb ao bo ca cb l m w hca hcb hne hn
  · have : decide (l = m) = false := by
      rw [decide_eq_false_iff_not]
      intro h
      subst h
      omega
    rw [this]
    exact Same_len a b na ca nb cb w hne

set_option maxHeartbeats 400000 in
theorem Step_nil (v : Int) (w : World) : Calls Try.prog 14 #[.pointer none, .int .u8 v] w fun e w' => e = .returned (.slice none 0 0) ∧ w = w' := by
  go_enter Try.func14, Try.ntmps14
  go_wp2_with fail
  go_ret
  exact ⟨rfl, rfl⟩
set_option maxHeartbeats 400000 in
theorem Feed_nil (v : Value) (w : World) : Calls Try.prog 22 #[.pointer none, v] w fun e w' => e = .returned (.slice none 0 0) ∧ w = w' := by
  go_enter Try.func22, Try.ntmps22
  go_wp2_with fail
  go_ret
  exact ⟨rfl, rfl⟩
set_option maxHeartbeats 400000 in
theorem End_nil (w : World) : Calls Try.prog 17 #[.pointer none] w fun e w' => e = .returned (.slice none 0 0) ∧ w = w' := by
  go_enter Try.func17, Try.ntmps17
  go_wp2_with fail
  go_ret
  exact ⟨rfl, rfl⟩
set_option maxHeartbeats 400000 in
theorem Pending_nil (w : World) : Calls Try.prog 16 #[.pointer none] w fun e w' => e = .returned (.slice none 0 0) ∧ w = w' := by
  go_enter Try.func16, Try.ntmps16
  go_wp2_with fail
  go_ret
  exact ⟨rfl, rfl⟩
set_option maxHeartbeats 400000 in
theorem Copy_nil (w : World) : Calls Try.prog 13 #[.pointer none] w fun e w' => e = .returned (.pointer none) ∧ w = w' := by
  go_enter Try.func13, Try.ntmps13
  go_wp2_with fail
  go_ret
  exact ⟨rfl, rfl⟩
end Go.Proofs.Ytjcoeapopkkcbaa
