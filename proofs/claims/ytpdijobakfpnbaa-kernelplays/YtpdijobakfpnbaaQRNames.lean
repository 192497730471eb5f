/- parcloseref.names answers a set of just the categories that the labels name. -/
import Derived.Test.YtpdijobakfpnbaaQMem
import Derived.Maps.Own
import Derived.Maps.OwnOps
import Derived.Maps.Views
import Derived.Maps.RangeWalk
namespace Go.Proofs.Ytpdijobakfpnbaa
open Go.RowKit Go.Proofs.Parclose Go.Maps
theorem lawInt : Keyed Try.prog 3 := int_keyed Try.underlying3
def HasOnly (D : DataW Unit) (cl : List Int) : Prop := IsMap D ∧ ∀ kl, Maps.has D kl = true ↔ ∃ c ∈ cl, kl = .int .i64 c
theorem Qed : HasOnly (.map []) [] := ⟨isMap_empty, fun kl => by simp [Maps.has]⟩
theorem HasOnly.put {D : DataW Unit} {cl : List Int} (h : HasOnly D cl) (c : Int) (d : DataW Unit) : HasOnly (D.put (.int .i64 c) d) (cl ++ [c]) := by
 refine ⟨h.1.put _ _, fun kl => ?_⟩
 by_cases e : kl = .int .i64 c
 · subst e
   rw [has_put_same (k := .int .i64 c) h.1 trivial]
   simp
 · rw [has_put_other e, h.2 kl]
   constructor
   · rintro ⟨x, hx, e'⟩; exact ⟨x, by simp [hx], e'⟩
   · rintro ⟨x, hx, e'⟩
     simp only [List.mem_append, List.mem_singleton] at hx
     rcases hx with hx | hx
     · exact ⟨x, hx, e'⟩
     · subst hx; exact absurd e' e
def TrueSet (D : DataW Unit) (cl : List Int) : Prop := HasOnly D cl ∧ ∀ c, D.atKey (.int .i64 c) (.lit (.bool false)) = .lit (.bool (decide (c ∈ cl)))
theorem QdU : TrueSet (.map []) [] := ⟨Qed, fun c => by rw [atKey_of_not_has (by simp [Maps.has])]; simp⟩
theorem TrueSet.put {D : DataW Unit} {cl : List Int} (h : TrueSet D cl) (c : Int) : TrueSet (D.put (.int .i64 c) (.lit (.bool true))) (cl ++ [c]) := by
 refine ⟨h.1.put _ _, fun x => ?_⟩
 by_cases e : x = c
 · subst e
   rw [atKey_put_same (k := .int .i64 x) h.1.1 trivial]
   simp
 · rw [atKey_put_other (by simpa using e), h.2 x]
   have : decide (x ∈ cl) = decide (x ∈ cl ++ [c]) := by simp [e]
   rw [this]
set_option maxHeartbeats 1000000 in
theorem QdX (v : Value) (ls : List (List (Int × Int))) (w : World) (hv : LabsAt w v ls) (hls : ls.length ≤ 4) (hwf : ∀ l ∈ ls, WfL l) :
 Calls Try.prog 47 #[v] w fun e w' => ∃ n D, e = .returned (.map (some w.heap.size)) ∧ n = (ls.flatMap fun l => l.map (·.1)).length ∧ w'.ownsMap Try.prog 3 (plainElem (H := Unit) Try.prog 4) w.heap.size n D ∧ TrueSet D (ls.flatMap fun l => l.map (·.1)) ∧ Below w.heap.size w w' := by
 obtain ⟨b, o, cap, rfl, hcells⟩ := hv
 have hmm := @run_makeMap Try.prog
 go_enter Try.func47, Try.ntmps47
 go_wp2
 go_loopw [11] (fun i wr => ∃ (k n : Nat) (D : DataW Unit), k ≤ ls.length ∧ i = .int .i64 k ∧ (n ≤ k * 8796093022208 ∧ n = ((ls.take k).flatMap fun l => l.map (·.1)).length) ∧ wr.ownsMap Try.prog 3 (plainElem (H := Unit) Try.prog 4) w.heap.size n D ∧ TrueSet D ((ls.take k).flatMap fun l => l.map (·.1)) ∧ Below w.heap.size w wr)
  (fun i _ => ls.length - (intOf i).toNat)
 case atStart => exact ⟨0, 0, _, Nat.zero_le _, rfl, ⟨by omega, rfl⟩, World.ownsMap_made _ _ _ _, QdU, (Below.refl _ _).alloc (Nat.le_refl _) _⟩
 case round =>
  obtain ⟨k, n, D, hk, rfl, ⟨hn, hnl⟩, hown, hD, hnx⟩ := hrel
  have HNL : Hid (n = ((ls.take k).flatMap fun l => l.map (·.1)).length) := hnl
  clear hnl
  by_cases hlt : k < ls.length
  · obtain ⟨u, hu, hlab⟩ := hcells k hlt
    obtain ⟨p, cap', rfl, hlc, hlen, hcs⟩ := hlab
    have hu2 : wr.cell? ⟨b, o + k, none⟩ = some (.slice p ls[k].length cap') := by rw [hnx.cell (Qb hu), hu]
    have hwk := hwf ls[k] (List.getElem_mem hlt)
    have hstep : (ls.take (k + 1)).flatMap (fun l => l.map (·.1)) = (ls.take k).flatMap (fun l => l.map (·.1)) ++ (ls[k].map (·.1)) := by
     rw [List.take_succ_eq_append_getElem hlt, List.flatMap_append]; simp
    have HS : Hid ((ls.take (k + 1)).flatMap (fun l => l.map (·.1)) = (ls.take k).flatMap (fun l => l.map (·.1)) ++ (ls[k].map (·.1))) := hstep
    clear hstep hu hcells
    generalize hlk : ls[k] = l at *
    generalize (ls.take k).flatMap (fun l => l.map (·.1)) = cl at *
    clear hlk
    go_wp2
    go_loopw [17] (fun i ws => ∃ (m : Nat) (E : DataW Unit), m ≤ l.length ∧ i = .int .i64 m ∧ ws.ownsMap Try.prog 3 (plainElem (H := Unit) Try.prog 4) w.heap.size (n + m) E ∧ TrueSet E (cl ++ (l.map (·.1)).take m) ∧ Below w.heap.size w ws)
     (fun i _ => l.length - (intOf i).toNat)
    case atStart => exact ⟨0, D, Nat.zero_le _, rfl, hown, by simpa using hD, hnx⟩
    case round =>
     clear hown hD hu2
     have hnx0 := hnx
     clear hnx
     obtain ⟨m, E, hm, rfl, hown, hD, hnx⟩ := hrel
     by_cases hltm : m < l.length
     · obtain ⟨bl, ol, rfl, hcl⟩ := hcs (by omega)
       obtain ⟨hc1, hc2⟩ := (hcl.below hnx) m hltm
       have hkey : keyOf Try.prog 3 (.int .i64 l[m].1) = some (.int .i64 l[m].1) := keyOf_int_mk Try.underlying3 (hwk l[m] (List.getElem_mem hltm)).1
       have hsz := hnx.size
       clear hcs hcl hnx0
       go_wp2_with (at_mapUpdate; refine wpList_mapUpdate_own _ rfl _ _ _ 87 rfl 3 4 lawInt Try.underlying87 _ w.heap.size (n + m) _ rfl (hown.alloc _) (by unfold maxLen; omega) _ _ _ rfl rfl hkey _ [] (plainElem_bool Try.underlying4 true) ?_; intro w1 hown1 hgrow1)
       have hst2 : cl ++ (l.map (·.1)).take (m + 1) = cl ++ (l.map (·.1)).take m ++ [l[m].1] := by
        rw [List.take_succ_eq_append_getElem (by simpa using hltm)]; simp
       try go_frame
       go_roundw
       case rel => exact ⟨m + 1, _, hltm, by go_num, hown1, by rw [hst2]; exact hD.put _, (hnx.alloc hsz _).grown hgrow1 (by simp; omega) (fun j hj => by cases hj; exact Nat.le_refl _)⟩
       case measure => simp [intOf]; omega
     · have hml : m = l.length := by omega
       subst hml
       rw [List.take_of_length_le (by simp)] at hD
       go_wp2
       go_roundw
       case rel => exact ⟨k + 1, n + l.length, E, hlt, by go_num, ⟨by omega, by rw [HS.out, List.length_append, ← HNL.out]; simp⟩, hown, by rw [HS.out]; exact hD, hnx⟩
       case measure => simp [intOf]; omega
  · have hkl : k = ls.length := by omega
    subst hkl
    rw [List.take_length] at hD
    have hnl := HNL.out
    rw [List.take_length] at hnl
    have HNL2 : Hid (n = (ls.flatMap fun l => l.map (·.1)).length) := hnl
    clear hnl
    go_wp2
    go_ret
    exact ⟨n, D, rfl, HNL2.out, hown, hD, hnx⟩
theorem QeG (v : Value) (ls : List (List (Int × Int))) (w : World) (hv : LabsAt w v ls) (hls : ls.length ≤ 4) (hwf : ∀ l ∈ ls, WfL l) :
 Calls Try.prog 47 #[v] w fun e w' => ∃ n D, e = .returned (.map (some w.heap.size)) ∧ n = (ls.flatMap fun l => l.map (·.1)).length ∧ w'.ownsMap Try.prog 3 (plainElem (H := Unit) Try.prog 4) w.heap.size n D ∧ HasOnly D (ls.flatMap fun l => l.map (·.1)) ∧ Below w.heap.size w w' :=
 (QdX v ls w hv hls hwf).mono fun _ _ ⟨n, D, h1, h2, h3, h4, h5⟩ => ⟨n, D, h1, h2, h3, h4.1, h5⟩
end Go.Proofs.Ytpdijobakfpnbaa
