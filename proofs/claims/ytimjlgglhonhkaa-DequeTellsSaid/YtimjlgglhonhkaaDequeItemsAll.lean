/- Layer deque: what is in the deque, whatever there is. -/
import Derived.Test.YtimjlgglhonhkaaDequeItemsY
import Derived.Test.YtimjlgglhonhkaaDequeItemsN
namespace Go.Proofs.Ytimjlgglhonhkaa
open Go.RowKit

theorem Items_any (k p s c b t x u : Int) (v : Value) (m : List Int) (base n : Int) (w : World) (h : Cells w v m) (hm : AllU m) (hbig : m.length * 8 ≤ 140737488351232) (hbase : I6 base) (hn : I6 n) (r : List Int) (hr : itemsF m base n ⟨k, p, s, c, b, t, x, u⟩ = r) (rn : Nat) (hrn : r.length = rn) :
    Calls Try.prog 15 #[v, .int .i64 base, .int .i64 n, mvv k p s c b t x u] w (ItemsEnd w r rn) := by
  cases hext : extF ⟨k, p, s, c, b, t, x, u⟩ with
  | true =>
    by_cases hD : w64 (w64 (loadF m (s64 (base + 1)) + 1) - loadF m base) ≤ min (max n 1) 64
    · have h0 := (w64_U' (w64 (loadF m (s64 (base + 1)) + 1) - loadF m base)).1
      exact items_okY k p s c b t x u v m base n w h hm hbig hbase hn _ _ _ _ _ _ rfl rfl rfl hext rfl rfl rfl _ (Int.toNat_of_nonneg h0).symm hD r hr rn hrn
    · exact items_bigY k p s c b t x u v m base n w h hm hbig hbase hn _ _ _ _ _ _ rfl rfl rfl hext rfl rfl rfl (by omega) r hr rn hrn
  | false =>
    by_cases hD : w64 (loadF m (s64 (base + 1)) - loadF m base) ≤ min (max n 1) 64
    · have h0 := (w64_U' (loadF m (s64 (base + 1)) - loadF m base)).1
      exact items_okN k p s c b t x u v m base n w h hm hbig hbase hn _ _ _ _ _ _ rfl rfl rfl hext rfl rfl rfl _ (Int.toNat_of_nonneg h0).symm hD r hr rn hrn
    · exact items_bigN k p s c b t x u v m base n w h hm hbig hbase hn _ _ _ _ _ _ rfl rfl rfl hext rfl rfl rfl (by omega) r hr rn hrn
end Go.Proofs.Ytimjlgglhonhkaa
