"""How much air may be blown for the next tick, so that the pressure stays within a bound."""
