/- A page of the program beside a list of lines that lies apart from it. -/
import Derived.Test.YtpeedjknjjbabaaDoorShNil
namespace Go.Proofs.YtpeedjknjjbabaaDoor
open Go.RowKit
set_option linter.unusedVariables false
set_option maxRecDepth 100000

theorem LnsR.keptN {S : List Nat} {w w' : World} {a : Option Addr} {n : Nat} {vs : List LnA} {xs : List Ln} (h : LnsR w a n vs xs) (hk : Kept S w w') (h1 : ∀ g ∈ blkN a n, g ∉ S) (h2 : ∀ g ∈ blks vs, g ∉ S) : LnsR w' a n vs xs := ⟨h.rd.keptN hk h1, h.at'.kept hk h2⟩
theorem LnsR.ltN {w : World} {a : Option Addr} {n : Nat} {vs : List LnA} {xs : List Ln} (h : LnsR w a n vs xs) : ∀ g ∈ blkN a n, g < w.heap.size := fun g hg => by
  unfold blkN at hg
  split at hg
  · cases hg
  · rename_i hn
    refine h.rd.lt (fun h0 => ?_) g hg
    have := h.rd.1
    rw [h0] at this
    simp at this
    omega
/-- The tables, a page of the law's own, a list of lines that lies apart; nothing that there was at the law's start has changed. -/
structure Hs (w0 w : World) (b : Nat) (s : Sh) (B : List Nat) (a : Option Addr) (n c : Nat) (vs : List LnA) (ls : List Ln) : Prop where
  tb : Tabs w
  pg : PG w b s B
  ge : ∀ y ∈ B, w0.heap.size ≤ y
  kp : Kept [] w0 w
  rd : LnsR w a n vs ls
  nc : n ≤ c
  cm : c ≤ maxLen
  d1 : ∀ y ∈ blkN a n, y ∉ B
  d2 : ∀ y ∈ blks vs, y ∉ B
section
variable {w0 w w' : World} {b b' : Nat} {s s' : Sh} {B B' : List Nat} {a a' : Option Addr} {n c n' c' : Nat} {vs vs' : List LnA} {ls ls' : List Ln}
theorem Hs.keep (h : Hs w0 w b s B a n c vs ls) (hk : Kept [] w w') : Hs w0 w' b s B a n c vs ls :=
  ⟨h.tb.kept hk, h.pg.kept _ _ _ _ _ [] hk (by simp), h.ge, h.kp.trans hk (by simp), h.rd.keptN hk (by simp) (by simp), h.nc, h.cm, h.d1, h.d2⟩
/-- Another page state, where only the page's blocks have changed. -/
theorem Hs.page (h : Hs w0 w b s B a n c vs ls) (h2 : 2 ≤ w0.heap.size) (hp : PG w' b' s' B') (hk : Kept B w w') (hB : ∀ y ∈ B', y ∈ B ∨ w.heap.size ≤ y) : Hs w0 w' b' s' B' a n c vs ls := by
  have hs := h.kp.size
  refine ⟨h.tb.kept2 hk (fun x hx => by have := h.ge x hx; omega), hp, fun y hy => (hB y hy).elim (h.ge y) (fun h1 => by omega), h.kp.trans hk (fun x hx => .inr (h.ge x hx)), h.rd.keptN hk h.d1 h.d2, h.nc, h.cm, fun y hy hm => ?_, fun y hy hm => ?_⟩
  · have h1 := h.rd.ltN y hy
    exact (hB y hm).elim (h.d1 y hy) (fun h3 => by omega)
  · have h1 := h.rd.at'.lt y hy
    exact (hB y hm).elim (h.d2 y hy) (fun h3 => by omega)
/-- Another list, where nothing has changed. -/
theorem Hs.list (h : Hs w0 w b s B a n c vs ls) (hr : LnsR w a' n' vs' ls') (hnc : n' ≤ c') (hcm : c' ≤ maxLen) (h1 : ∀ y ∈ blkN a' n', y ∉ B) (h2 : ∀ y ∈ blks vs', y ∉ B) : Hs w0 w b s B a' n' c' vs' ls' := ⟨h.tb, h.pg, h.ge, h.kp, hr, hnc, hcm, h1, h2⟩
theorem Hs.len (h : Hs w0 w b s B a n c vs ls) (z : Int) (hz : ((s.ls.length : Nat) : Int) = z) : Calls Tryd.prog 18 #[.pointer (some ⟨b, 0, none⟩)] w fun e w' => e = .returned (.int .i64 z) ∧ Hs w0 w' b s B a n c vs ls := by
  subst hz
  exact (pageIs.len w b s B h.pg).mono fun e w' ⟨he, hk⟩ => ⟨he, h.keep hk⟩
theorem Hs.room (h : Hs w0 w b s B a n c vs ls) (z : Int) (hz : ((s.room : Nat) : Int) = z) : Calls Tryd.prog 15 #[.pointer (some ⟨b, 0, none⟩)] w fun e w' => e = .returned (.int .i64 z) ∧ Hs w0 w' b s B a n c vs ls := by
  subst hz
  exact (pageIs.room w b s B h.pg).mono fun e w' ⟨he, hk⟩ => ⟨he, h.keep hk⟩
theorem Hs.gone (h : Hs w0 w b s B a n c vs ls) (z : Int) (hz : ((s.gone : Nat) : Int) = z) : Calls Tryd.prog 19 #[.pointer (some ⟨b, 0, none⟩)] w fun e w' => e = .returned (.int .i64 z) ∧ Hs w0 w' b s B a n c vs ls := by
  subst hz
  exact (pageIs.gone w b s B h.pg).mono fun e w' ⟨he, hk⟩ => ⟨he, h.keep hk⟩
theorem Hs.cap (h : Hs w0 w b s B a n c vs ls) (z : Int) (hz : ((s.places : Nat) : Int) = z) : Calls Tryd.prog 22 #[.pointer (some ⟨b, 0, none⟩)] w fun e w' => e = .returned (.int .i64 z) ∧ Hs w0 w' b s B a n c vs ls := by
  subst hz
  exact (pageIs.cap w b s B h.pg).mono fun e w' ⟨he, hk⟩ => ⟨he, h.keep hk⟩
theorem Hs.lines (h : Hs w0 w b s B a n c vs ls) (m : Nat) (hm : s.ls.length = m) : Calls Tryd.prog 23 #[.pointer (some ⟨b, 0, none⟩)] w fun e w' => ∃ g us, e = .returned (.slice (some ⟨g, 0, none⟩) m m) ∧ Fresh w.heap.size w' g m us s.ls ∧ Hs w0 w' b s B a n c vs ls := by
  refine (lines_n (ok := fun y => w0.heap.size ≤ y) ⟨B, h.pg, h.ge⟩ m hm).mono ?_
  rintro e w' ⟨g, us, he, hf, hk⟩
  exact ⟨g, us, he, hf, h.keep hk⟩
theorem Hs.push (h : Hs w0 w b s B a n c vs ls) (h2 : 2 ≤ w0.heap.size) (a1 : Option Addr) (n1 c1 : Nat) (x : Ln) (hr : Rd w a1 n1 16 (cellsV x.l)) (z : Int) (hs : pushS s x = (s', z)) :
    Calls Tryd.prog 13 #[.pointer (some ⟨b, 0, none⟩), .agg #[.slice a1 n1 c1, .bool x.s]] w fun e w' => e = .returned (.int .i64 z) ∧ ∃ B', Hs w0 w' b s' B' a n c vs ls ∧ Kept B w w' ∧ ∀ y ∈ B', y ∈ B ∨ w.heap.size ≤ y := by
  obtain ⟨a2, n2, c2, us, hp, rfl⟩ := h.pg
  refine (PushS_any w b s a2 n2 c2 us hp a1 n1 c1 x h.tb hr).mono ?_
  rintro e w' ⟨B', he, p1, p2, p3⟩
  rw [hs] at he p1
  exact ⟨he, B', h.page h2 p1 p2 p3, p2, p3⟩
theorem Hs.set (h : Hs w0 w b s B a n c vs ls) (h2 : 2 ≤ w0.heap.size) (i : Int) (a1 : Option Addr) (n1 c1 : Nat) (x : Ln) (hr : Rd w a1 n1 16 (cellsV x.l)) (z : Int) (hs : setS s i x = (s', z)) :
    Calls Tryd.prog 21 #[.pointer (some ⟨b, 0, none⟩), .int .i64 i, .agg #[.slice a1 n1 c1, .bool x.s]] w fun e w' => e = .returned (.int .i64 z) ∧ ∃ B', Hs w0 w' b s' B' a n c vs ls ∧ Kept B w w' ∧ ∀ y ∈ B', y ∈ B ∨ w.heap.size ≤ y := by
  obtain ⟨a2, n2, c2, us, hp, rfl⟩ := h.pg
  refine (SetS_any w b s a2 n2 c2 us hp i a1 n1 c1 x h.tb hr).mono ?_
  rintro e w' ⟨B', he, p1, p2, p3⟩
  rw [hs] at he p1
  exact ⟨he, B', h.page h2 p1 p2 p3, p2, p3⟩
theorem Hs.drop (h : Hs w0 w b s B a n c vs ls) (h2 : 2 ≤ w0.heap.size) (k z : Int) (hs : dropS s k = (s', z)) :
    Calls Tryd.prog 16 #[.pointer (some ⟨b, 0, none⟩), .int .i64 k] w fun e w' => e = .returned (.int .i64 z) ∧ ∃ B', Hs w0 w' b s' B' a n c vs ls ∧ Kept B w w' ∧ ∀ y ∈ B', y ∈ B ∨ w.heap.size ≤ y := by
  obtain ⟨a2, n2, c2, us, hp, rfl⟩ := h.pg
  refine (DropS_any w b s a2 n2 c2 us hp k).mono ?_
  rintro e w' ⟨B', he, p1, p2, p3⟩
  rw [hs] at he p1
  exact ⟨he, B', h.page h2 p1 p2 p3, p2, p3⟩
theorem Hs.pop (h : Hs w0 w b s B a n c vs ls) (h2 : 2 ≤ w0.heap.size) (l : Ln) (z : Int) (hs : popS s = (s', l, z)) :
    Calls Tryd.prog 25 #[.pointer (some ⟨b, 0, none⟩)] w fun e w' => ∃ a4 n4 c4, e = .returned (.tuple #[.agg #[.slice a4 n4 c4, .bool l.s], .int .i64 z]) ∧ LnAt w' ⟨a4, n4, c4, l.s⟩ l ∧ OwnL w' ⟨a4, n4, c4, l.s⟩ ∧ (∀ y ∈ blk a4, w0.heap.size ≤ y) ∧ ∃ B', Hs w0 w' b s' B' a n c vs ls ∧ (∀ y ∈ blk a4, y ∉ B' ∧ (y ∈ B ∨ w.heap.size ≤ y)) ∧ Kept B w w' ∧ ∀ y ∈ B', y ∈ B ∨ w.heap.size ≤ y := by
  obtain ⟨a2, n2, c2, us, hp, rfl⟩ := h.pg
  refine (PopS_any w b s a2 n2 c2 us hp).mono ?_
  rintro e w' ⟨B', a4, n4, c4, he, p1, p2, p3, p4, p5, p6⟩
  rw [hs] at he p1 p2 p4
  exact ⟨a4, n4, c4, he, p1, p2, fun y hy => (p3 y hy).2.elim (h.ge y) (fun h1 => by have := h.kp.size; omega), B', h.page h2 p4 p5 p6, p3, p5, p6⟩
end
theorem blkN_sub {a : Option Addr} {n : Nat} : ∀ y ∈ blkN a n, y ∈ blk a := fun y hy => by unfold blkN at hy; split at hy; cases hy; exact hy
/-- A part of a slice lies where the slice lies. -/
theorem cutb_l (a : Option Addr) (n c lo : Nat) (h1 : lo ≤ n) (h3 : n ≤ c) (hc : c ≤ maxLen) :
    ∃ a2, (∀ w, (Instr.slice 30 (.slice a n c) (some (.int .i64 lo)) none none).run Tryd.prog w = .ok (.slice a2 (n - lo) (c - lo)) w) ∧ (∀ y ∈ blkN a2 (n - lo), y ∈ blkN a n) ∧
      ∀ w (l : List LnA), Rd w a n 2 (rowsV lnV l) → Rd w a2 (n - lo) 2 (rowsV lnV (l.drop lo)) := by
  refine ⟨if c = lo then a else a.map (·.add (lo * 2)), fun w => ?_, fun y hy => ?_, fun w l hr => ?_⟩
  · rw [run_slice_l (P := Tryd.prog) w 30 a n c Tryd.underlying30 .i64 lo (by omega) (by omega), szLn']
    simp [Result.andThen, sliced]
  · unfold blkN at *
    split at hy
    · cases hy
    · rw [if_neg (by omega)] at hy
      rw [if_neg (by omega)]
      cases a with
      | none => cases hy
      | some x =>
        simp only [blk, Option.map_some, List.mem_singleton] at hy ⊢
        rw [hy, add_block]
  · obtain ⟨a3, c3, _, _, hrun, h⟩ := cutn_l a n c lo h1 h3 hc
    have h4 := h w l hr
    have e := hrun w
    rw [run_slice_l (P := Tryd.prog) w 30 a n c Tryd.underlying30 .i64 lo (by omega) (by omega), szLn'] at e
    simp [Result.andThen, sliced] at e
    rw [← e.1] at h4
    exact h4
theorem cutb_h (a : Option Addr) (n c hi : Nat) (h2 : hi ≤ n) (h3 : n ≤ c) (hc : c ≤ maxLen) :
    ∃ a2, (∀ w, (Instr.slice 30 (.slice a n c) none (some (.int .i64 hi)) none).run Tryd.prog w = .ok (.slice a2 hi c) w) ∧ (∀ y ∈ blkN a2 hi, y ∈ blkN a n) ∧
      ∀ w (l : List LnA), Rd w a n 2 (rowsV lnV l) → Rd w a2 hi 2 (rowsV lnV (l.take hi)) := by
  refine ⟨if c = 0 then a else a.map (·.add (0 * 2)), fun w => ?_, fun y hy => ?_, fun w l hr => ?_⟩
  · rw [run_slice_h (P := Tryd.prog) w 30 a n c Tryd.underlying30 .i64 hi (by omega) (by omega), szLn']
    simp [Result.andThen, sliced]
  · unfold blkN at *
    split at hy
    · cases hy
    · rw [if_neg (by omega)] at hy
      rw [if_neg (by omega)]
      cases a with
      | none => cases hy
      | some x =>
        simp only [blk, Option.map_some, List.mem_singleton] at hy ⊢
        rw [hy, add_block]
  · obtain ⟨a3, c3, _, _, hrun, h⟩ := cutn_h a n c hi h2 h3 hc
    have h4 := h w l hr
    have e := hrun w
    rw [run_slice_h (P := Tryd.prog) w 30 a n c Tryd.underlying30 .i64 hi (by omega) (by omega), szLn'] at e
    simp [Result.andThen, sliced] at e
    simpa using e.1 ▸ h4
end Go.Proofs.YtpeedjknjjbabaaDoor
