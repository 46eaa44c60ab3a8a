/-
  How long the answers about tracks are. Conditions: none.
-/
import Derived.Test.YtjekmmekkfmplaaEh
namespace Go.Proofs.Ytjekmmekkfmplaa

theorem mfR_len (T : List Int) : (mfR T).length ≤ 30 := by
  unfold mfR
  rcases h : trB T with _ | _
  · simp
  · rw [if_pos rfl, mfL_len]; exact (trk_of h).hi
theorem sfR_len (T : List Int) (r : Int) : (sfR T r).length ≤ 30 := by
  unfold sfR
  rcases h : sfK T r with _ | _
  · simp
  · rw [if_pos rfl, shL_len]
    unfold sfK at h
    rw [Bool.and_eq_true] at h
    exact (trk_of h.1).hi
theorem rjR_len (T : List Int) (l : Int) : (rjR T l).length ≤ 30 := by
  unfold rjR
  rcases h : akB T l with _ | _
  · simp
  · rw [if_pos rfl, kpK_len]; exact (ak_is h).1.hi
theorem flL_len (T : List Int) (l : Int) : (flL T l).length ≤ 30 := by
  unfold flL
  rcases h : akB T l with _ | _
  · simp
  · rw [if_pos rfl, flR_len]; exact (ak_is h).1.hi
theorem wsR_len (T U : List Int) : (wsR T U).length ≤ 30 := by
  unfold wsR
  rcases h : wsK T U with _ | _
  · simp
  · rw [if_pos rfl]
    unfold wsK at h
    simp only [Bool.and_eq_true] at h
    have h1 := (trk_of h.1.1).hi
    have h2 : (wsL T U T.length).length ≤ T.length := coL_len _ _ _
    omega
theorem ktR_len (T U : List Int) : (ktR T U).length ≤ 30 := by
  unfold ktR
  rcases h : ktK T U with _ | _
  · simp
  · rw [if_pos rfl]
    unfold ktK at h
    simp only [Bool.and_eq_true, decide_eq_true_eq] at h
    have h1 := (trk_of h.1.1).hi
    have h2 : (ktL T U U.length).length ≤ U.length := coL_len _ _ _
    omega
theorem upR_len (T : List Int) (l : Int) : (upR T l).length ≤ 30 := by
  unfold upR
  rcases h : akB T l with _ | _
  · simp
  · rw [if_pos rfl]
    have h1 := (ak_is h).1.hi
    have h2 : (upS T l).length ≤ T.length - 2 := coL_len _ _ _
    omega
theorem dnR_len (T : List Int) (l : Int) : (dnR T l).length ≤ 30 := by
  unfold dnR
  rcases h : akB T l with _ | _
  · simp
  · rw [if_pos rfl]
    have h1 := (ak_is h).1.hi
    have h2 : (dnS T l).length ≤ T.length - 2 := coL_len _ _ _
    omega
end Go.Proofs.Ytjekmmekkfmplaa
