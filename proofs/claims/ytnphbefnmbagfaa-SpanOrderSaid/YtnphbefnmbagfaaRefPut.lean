/-
  What the reference's text and Put answer.
-/
import Derived.Test.YtnphbefnmbagfaaRefRight
import Derived.Test.YtnphbefnmbagfaaStr
import Derived.Deep.RegionLaw
namespace Go.Proofs.Ytnphbefnmbagfaa
open Go.RowKit Ru

def textF (s : ByteArray) : List UInt8 := UInt8.ofNat s.size :: strB s
theorem textF_length (s : ByteArray) : (textF s).length = 1 + s.size := by unfold textF; rw [List.length_cons, strB_length]; omega

set_option maxHeartbeats 1000000 in
theorem reftext_any (B : Nat) (A : Option Addr) (n c : Nat) (l : List UInt8) (s : ByteArray) (w : World) (hown : Own B w A n c l) (hB : B ≤ w.heap.size) (hs : s.size ≤ 32) (hn : n ≤ 140737488000000) :
    Calls Try.prog 35 #[.slice A n c, .string s] w fun e w' => ∃ A' c', e = .returned (.slice A' (n + (1 + s.size)) c') ∧ Own B w' A' (n + (1 + s.size)) c' (l ++ textF s) ∧ Below B w w' := by
  have Ho := hid_ hown
  have hsz : (UInt8.ofNat s.size).toNat = s.size := by rw [UInt8.toNat_ofNat']; omega
  have Hb8 := hid_ (show (Value.int .u8 (s.size : Int)) = .int .u8 ((UInt8.ofNat s.size).toNat : Int) by rw [hsz])
  clear hown hsz
  go_enter Try.func35, Try.ntmps35
  go_wp2_with (first
    | (at_builtin; refine wpList_bytes rfl (.tmp 5) (.tmp 9) rfl B A n c l rfl (Ho.out.alloc _) (some ⟨w.heap.size, 0, none⟩) 1 1 [UInt8.ofNat s.size] rfl (own_lit w [UInt8.ofNat s.size] _ (by rw [Hb8.out]; rfl) 1 rfl (by omega) w.heap.size (Nat.le_refl _)).sl (n + 1) _ rfl rfl (by omega) (by simp; omega) ?_; intro A1 c1 w1 ho' hb'; have Ho1 := hid_ ho'; have Hb1 := hid_ (((Below.refl _ _).alloc hB _).trans hb'); clear ho' hb')
    | (at_builtin; refine wpList_string rfl (.tmp 10) (.tmp 11) rfl B A1 (n + 1) c1 _ rfl Ho1.out s rfl (n + (1 + s.size)) _ (by omega) rfl (by omega) (Nat.le_trans hB Hb1.out.size) ?_; intro A2 c2 w2 ho' hb'; have Ho2 := hid_ ho'; have Hb2 := hid_ (Hb1.out.trans hb'); clear ho' hb'))
  go_ret
  refine ⟨A2, c2, rfl, ?_, Hb2.out⟩
  have h := Ho2.out
  rw [List.append_assoc] at h
  exact h
def numsN (s : SpanD) : List Nat := [s.trace, s.id, s.parent, s.start, s.len]
def numVals (s : SpanD) : List Value := (numsN s).map fun n => .int .u64 (n : Nat)
def headK (s : SpanD) (k : Nat) : List UInt8 := ((numsN s).take k).flatMap eight
theorem numsN_length (s : SpanD) : (numsN s).length = 5 := rfl
theorem headK_succ (s : SpanD) {k : Nat} (h : k < (numsN s).length) : headK s (k + 1) = headK s k ++ eight (numsN s)[k] := by
  unfold headK
  rw [List.take_succ_eq_append_getElem h, List.flatMap_append]
  simp
theorem numsN_lt {s : SpanD} (h : s.Wf) {k : Nat} (hk : k < (numsN s).length) : (numsN s)[k] < 18446744073709551616 := by
  have h1 := h.trace; have h2 := h.id; have h3 := h.parent; have h4 := h.start; have h5 := h.len
  rw [numsN_length] at hk
  rcases (show k = 0 ∨ k = 1 ∨ k = 2 ∨ k = 3 ∨ k = 4 by omega) with rfl | rfl | rfl | rfl | rfl
  all_goals assumption
def flag (b : Bool) : UInt8 := if b then 1 else 0
/-- A span's bytes. -/
def putF (s : SpanD) : List UInt8 := headK s 5 ++ [flag s.fail] ++ textF s.service ++ textF s.name

def SpanPost (w : World) (l0 : List UInt8) (s : SpanD) (e : Ending) (w' : World) : Prop :=
  (rightF s ≠ 0 ∧ e = .returned (.tuple #[.slice none 0 0, .int .i64 (rightF s)]) ∧ Below w.heap.size w w') ∨
  (rightF s = 0 ∧ ∃ A n c, e = .returned (.tuple #[.slice A n c, .int .i64 0]) ∧ Own w.heap.size w' A n c (l0 ++ putF s) ∧ Below w.heap.size w w')
theorem spanPost_no {w w' : World} {l0 : List UInt8} {s : SpanD} {k : Int} (h : rightF s = k) (hk : k ≠ 0) (hb : Below w.heap.size w w') : SpanPost w l0 s (.returned (.tuple #[.slice none 0 0, .int .i64 k])) w' :=
  .inl ⟨by rw [h]; exact hk, by rw [h], hb⟩
theorem spanPost_ok {w w' : World} {l0 : List UInt8} {s : SpanD} {A : Option Addr} {n c : Nat} (h : rightF s = 0) (ho : Own w.heap.size w' A n c (l0 ++ putF s)) (hb : Below w.heap.size w w') : SpanPost w l0 s (.returned (.tuple #[.slice A n c, .int .i64 0])) w' :=
  .inr ⟨h, A, n, c, rfl, ho, hb⟩

set_option maxHeartbeats 1000000 in
theorem refput_no (A : Option Addr) (n c : Nat) (l0 : List UInt8) (s : SpanD) (w : World) (hs : s.Wf) (hk : rightF s ≠ 0) :
    Calls Try.prog 18 #[.slice A n c, spanVal s] w (SpanPost w l0 s) := by
  have Hr := hid_ (fun W => refright_any s W hs)
  generalize hK : rightF s = K at hk
  have HK := hid_ hK
  have hkb : (K != 0) = true := by rw [bne_iff_ne]; exact hk
  have Hk := hid_ hk
  clear hK hk
  go_enter Try.func18, Try.ntmps18
  go_wp2_with fail
  refine (Hr.out _).mono ?_
  rintro e w1 ⟨rfl, hb⟩
  rw [HK.out]
  have Hb := hid_ hb
  clear hb
  go_wp2_with fail
  go_ret2
  exact spanPost_no HK.out Hk.out (((Below.refl _ _).alloc (Nat.le_refl _) _).trans (Hb.out.mono (by simp)))

theorem ne_after {row row' : Option Nat} {g N : Nat} (h : row ≠ some g) (hr : row' = row ∨ row' = some N) (hg : g < N) : row' ≠ some g := by
  rcases hr with rfl | rfl
  · exact h
  · intro e
    injection e with e'
    omega
set_option maxHeartbeats 2000000 in
theorem refput_ok (A : Option Addr) (n c : Nat) (l0 : List UInt8) (s : SpanD) (w : World) (hd : Sl w A n c l0) (hn : n ≤ 140737480000000) (hs : s.Wf) (hk : rightF s = 0) :
    Calls Try.prog 18 #[.slice A n c, spanVal s] w (SpanPost w l0 s) := by
  have Hr := hid_ (fun W => refright_any s W hs)
  have HK := hid_ hk
  have Hs := hid_ hs
  have Hd := hid_ hd
  have hz := right_zero hk
  have Hsv := hid_ (name_sizes hz.2.1)
  have Hnm := hid_ (name_sizes hz.2.2)
  clear hk hs hd hz
  go_enter Try.func18, Try.ntmps18
  go_wp2_with fail
  refine (Hr.out _).mono ?_
  rintro e w1 ⟨rfl, hb⟩
  rw [HK.out]
  have Hb := hid_ hb
  obtain ⟨hc, hf⟩ := bcell hb
  have hz1 : w.heap.size < w1.heap.size := by have := hb.size; simp at this; omega
  have B5 := hid_ (show w1.cell? ⟨w.heap.size, 5, none⟩ = some (.string s.service) by rw [hc _ _ (by simp), World.cell?_alloc_mark]; rfl)
  have B6 := hid_ (show w1.cell? ⟨w.heap.size, 6, none⟩ = some (.string s.name) by rw [hc _ _ (by simp), World.cell?_alloc_mark]; rfl)
  have B7 := hid_ (show w1.cell? ⟨w.heap.size, 7, none⟩ = some (.bool s.fail) by rw [hc _ _ (by simp), World.cell?_alloc_mark]; rfl)
  have Hb1 := hid_ (((Below.refl w.heap.size w).alloc (Nat.le_refl _) _).trans (hb.mono (by simp)))
  clear hb hf
  go_wp2_with (at_builtin; refine wpList_bytes rfl (.tmp 16) (.tmp 17) rfl w1.heap.size _ 0 _ _ rfl (own_lit w1 [] #[] rfl 0 rfl (by omega) _ (Nat.le_refl _)) A n c l0 rfl ((Hd.out.below Hb1.out).below ((Below.refl _ _).alloc (Nat.le_refl _) _)) n l0 (by omega) rfl (by omega) (by simp) ?_; intro A1 c1 w2 ho' hb'; have Ho2 := hid_ ho'; have Hb2 := hid_ (((Below.refl _ _).alloc (Nat.le_refl _) _).trans hb'); have hc2 := (bcell (((Below.refl w1.heap.size w1).alloc (Nat.le_refl _) _).trans hb')).1; clear ho' hb')
  have Hlt1 := hid_ (fun k hk => (World.ownsRow.lt Ho2.out k hk).2)
  clear hc hc2
  go_loopw [7, 9] (fun vb vi wr => ∃ k Ab cb, k ≤ 5 ∧ vi = .int .i64 (k : Nat) ∧ vb = .slice Ab (n + 8 * k) cb ∧ Own w1.heap.size wr Ab (n + 8 * k) cb (l0 ++ headK s k) ∧
    OwnV 26 w1.heap.size wr (some ⟨w2.heap.size, 0, none⟩) 5 5 (numVals s) ∧ Hid ((Value.slice Ab (n + 8 * k) cb).ownBlock ≠ some w2.heap.size) ∧ Below w1.heap.size w1 wr) (fun _ vi _ => 5 - (intOf vi).toNat)
  case atStart => exact ⟨0, A1, c1, by omega, rfl, rfl, by rw [show headK s 0 = [] from rfl, List.append_nil]; exact Ho2.out.alloc _, ownV_lit _ w2 (numVals s) _ rfl 5 rfl (by omega) _ Hb2.out.size, hid_ (fun e => by have := Hlt1.out _ e; omega), Hb2.out.alloc Hb2.out.size _⟩
  case round =>
    obtain ⟨k, Ab, cb, hk, rfl, rfl, ho, hv, hne, hb⟩ := hrel
    have Ho := hid_ ho
    have Hv := hid_ hv
    have Hbl := hid_ hb
    clear ho hv hb
    by_cases hlt : k < 5
    · have hkl : k < (numsN s).length := by rw [numsN_length]; exact hlt
      obtain ⟨b, off, e0, hcell⟩ := Hv.out.row.at_ (k := k) (by simpa [numVals] using hkl)
      cases e0
      have hcell' : wr.cell? ⟨w2.heap.size, k, none⟩ = some (.int .u64 ((numsN s)[k] : Nat)) := by
        rw [Nat.zero_add] at hcell
        rw [hcell]
        simp [numVals]
      have hx := numsN_lt Hs.out hkl
      have Hh := hid_ (headK_succ s hkl)
      clear hcell
      generalize (numsN s)[k] = x at *
      have He := hid_ (refeight_any x wr hx)
      go_wp2_with (first
        | (go_at_call 34; (with_reducible refine Calls.mono He.out ?_); rintro e w3 ⟨A3, c3, rfl, ho', hb'⟩; have Ho3 := hid_ ho'; have Hob := hid_ (Ho.out.later hb'); have Hv3 := hid_ (Hv.out.later hb'); have Hb3 := hid_ (Hbl.out.trans (hb'.mono Hbl.out.size)); clear ho' hb')
        | (at_builtin; refine wpList_bytesG rfl (.tmp 36) (.tmp 41) rfl w1.heap.size Ab (n + 8 * k) cb _ rfl Hob.out A3 8 c3 (eight x) rfl Ho3.out.sl (n + 8 * (k + 1)) (l0 ++ headK s (k + 1)) (by omega) (by rw [Hh.out, List.append_assoc]) (by omega) Hb3.out.size ?_; intro A4 c4 w4 ho' hb' hg' hat'; have Ho4 := hid_ ho'; have Hb4 := hid_ (Hb3.out.trans hb'); have Hv4 := hid_ (Hv3.out.kept hg' (.inr (fun e => hne.out e.symm))); have Hne4 := hid_ (ne_after hne.out hat' (Hv3.out.from_ _ rfl).2); clear ho' hb' hg' hat'))
      go_roundw
      case rel => exact ⟨k + 1, A4, c4, by omega, by go_num, rfl, Ho4.out, Hv4.out, Hne4, Hb4.out⟩
      case measure => simp [intOf]; omega
    · have hk5 : k = 5 := by omega
      subst hk5
      obtain ⟨hcr, hfr⟩ := bcell Hbl.out
      have x5 : wr.cell? ⟨w.heap.size, 5, none⟩ = some (.string s.service) := by rw [hcr _ _ hz1]; exact B5.out
      have x6 : wr.cell? ⟨w.heap.size, 6, none⟩ = some (.string s.name) := by rw [hcr _ _ hz1]; exact B6.out
      have x7 : wr.cell? ⟨w.heap.size, 7, none⟩ = some (.bool s.fail) := by rw [hcr _ _ hz1]; exact B7.out
      have hzr : w.heap.size < wr.heap.size := by have := Hbl.out.size; omega
      have egr : wr.heap.size ≠ w.heap.size := by omega
      clear hcr hfr
      cases hfl : s.fail
      · rw [hfl] at x7
        have Hfl := hid_ hfl
        clear hfl
        go_wp2_with fail
        go_region_law (first
          | (refine step_bytes rfl (.tmp 45) (.tmp 47) rfl w1.heap.size Ab (n + 40) cb _ rfl (Ho.out.drew.alloc _) (some ⟨wr.heap.size, 0, none⟩) 1 1 [0] rfl (own_lit wr.drew [0] _ rfl 1 rfl (by omega) wr.heap.size (Nat.le_refl _)).sl (n + 40 + 1) _ rfl rfl (by omega) (by have := Hbl.out.size; simp; omega) ?_; intro A6 c6 w6 ho' hb'; have Ho6 := hid_ ho'; have Hb6 := hid_ ((Hbl.out.drew.alloc (by have := Hbl.out.size; simp; omega) _).trans hb'); clear ho' hb'; have y5 : w6.cell? ⟨w.heap.size, 5, none⟩ = some (.string s.service) := (by rw [(bcell Hb6.out).1 _ _ hz1]; exact B5.out); have y6 : w6.cell? ⟨w.heap.size, 6, none⟩ = some (.string s.name) := (by rw [(bcell Hb6.out).1 _ _ hz1]; exact B6.out))
          | (go_simp; go_at_call 35; (with_reducible refine Calls.mono (reftext_any w1.heap.size A6 (n + 40 + 1) c6 _ s.service _ Ho6.out Hb6.out.size Hsv.out.2 (by omega)) ?_); rintro e w7 ⟨A7, c7, rfl, ho', hb'⟩; have Ho7 := hid_ ho'; have Hb7 := hid_ (Hb6.out.trans hb'); clear ho' hb'; have z6 : w7.cell? ⟨w.heap.size, 6, none⟩ = some (.string s.name) := (by rw [(bcell Hb7.out).1 _ _ hz1]; exact B6.out); dsimp only)
          | (go_simp; go_at_call 35; (with_reducible refine Calls.mono (reftext_any w1.heap.size A7 (n + 8 * 5 + 1 + (1 + s.service.size)) c7 _ s.name _ Ho7.out Hb7.out.size Hnm.out.2 (by have := Hsv.out; omega)) ?_); rintro e w8 ⟨A8, c8, rfl, ho', hb'⟩; have Ho8 := hid_ ho'; have Hb8 := hid_ (Hb7.out.trans hb'); clear ho' hb'; dsimp only))
        all_goals
          go_wp2_with fail
          go_ret2
          refine spanPost_ok HK.out ((Ho8.out.mono Hb1.out.size).at_ rfl ?_) (Hb1.out.trans (Hb8.out.mono Hb1.out.size))
          rw [putF, Hfl.out]
          simp only [List.append_assoc]
          rfl
      · rw [hfl] at x7
        have Hfl := hid_ hfl
        clear hfl
        go_wp2_with fail
        go_region_law (first
          | (refine step_bytes rfl (.tmp 45) (.tmp 47) rfl w1.heap.size Ab (n + 40) cb _ rfl (Ho.out.drew.alloc _) (some ⟨wr.heap.size, 0, none⟩) 1 1 [1] rfl (own_lit wr.drew [1] _ rfl 1 rfl (by omega) wr.heap.size (Nat.le_refl _)).sl (n + 40 + 1) _ rfl rfl (by omega) (by have := Hbl.out.size; simp; omega) ?_; intro A6 c6 w6 ho' hb'; have Ho6 := hid_ ho'; have Hb6 := hid_ ((Hbl.out.drew.alloc (by have := Hbl.out.size; simp; omega) _).trans hb'); clear ho' hb'; have y5 : w6.cell? ⟨w.heap.size, 5, none⟩ = some (.string s.service) := (by rw [(bcell Hb6.out).1 _ _ hz1]; exact B5.out); have y6 : w6.cell? ⟨w.heap.size, 6, none⟩ = some (.string s.name) := (by rw [(bcell Hb6.out).1 _ _ hz1]; exact B6.out))
          | (go_simp; go_at_call 35; (with_reducible refine Calls.mono (reftext_any w1.heap.size A6 (n + 40 + 1) c6 _ s.service _ Ho6.out Hb6.out.size Hsv.out.2 (by omega)) ?_); rintro e w7 ⟨A7, c7, rfl, ho', hb'⟩; have Ho7 := hid_ ho'; have Hb7 := hid_ (Hb6.out.trans hb'); clear ho' hb'; have z6 : w7.cell? ⟨w.heap.size, 6, none⟩ = some (.string s.name) := (by rw [(bcell Hb7.out).1 _ _ hz1]; exact B6.out); dsimp only)
          | (go_simp; go_at_call 35; (with_reducible refine Calls.mono (reftext_any w1.heap.size A7 (n + 8 * 5 + 1 + (1 + s.service.size)) c7 _ s.name _ Ho7.out Hb7.out.size Hnm.out.2 (by have := Hsv.out; omega)) ?_); rintro e w8 ⟨A8, c8, rfl, ho', hb'⟩; have Ho8 := hid_ ho'; have Hb8 := hid_ (Hb7.out.trans hb'); clear ho' hb'; dsimp only))
        all_goals
          go_wp2_with fail
          go_ret2
          refine spanPost_ok HK.out ((Ho8.out.mono Hb1.out.size).at_ rfl ?_) (Hb1.out.trans (Hb8.out.mono Hb1.out.size))
          rw [putF, Hfl.out]
          simp only [List.append_assoc]
          rfl
end Go.Proofs.Ytnphbefnmbagfaa
