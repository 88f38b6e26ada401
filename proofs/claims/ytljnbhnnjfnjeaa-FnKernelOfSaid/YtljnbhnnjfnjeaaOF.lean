import Derived.Test.YtljnbhnnjfnjeaaZ8
namespace Go.Proofs.Ytljnbhnnjfnjeaa
open Go.RowKit

theorem box_drawn {w w' : World} {b g : Nat} {o : Obj} (h : w.heap[b]? = some o) (hb : b ≠ g) (hg : w.grownBy w' (some g)) : w'.heap[b]? = some o := (hg.block b (lt_of_block h) (fun e => hb (by injection e))).trans h
theorem box_drawn2 {w w' : World} {b g : Nat} {o : Obj} (hg : w.grownBy w' (some g)) (hb : b ≠ g) (h : w.heap[b]? = some o) : w'.heap[b]? = some o := box_drawn h hb hg
def prNames : List ByteArray := [(⟨#[112, 114, 101, 108, 105, 110, 101, 97, 114]⟩ : ByteArray), (⟨#[100, 105, 118, 105, 115, 105, 98, 108, 101]⟩ : ByteArray), (⟨#[105, 110, 118, 111, 108, 117, 116, 105, 118, 101]⟩ : ByteArray), (⟨#[105, 100, 101, 109, 112, 111, 116, 101, 110, 116]⟩ : ByteArray), (⟨#[98, 111, 111, 108, 101, 97, 110]⟩ : ByteArray), (⟨#[100, 105, 118, 105, 115, 105, 98, 108, 101]⟩ : ByteArray), (⟨#[105, 110, 118, 111, 108, 117, 116, 105, 118, 101]⟩ : ByteArray), (⟨#[]⟩ : ByteArray)]
end Go.Proofs.Ytljnbhnnjfnjeaa
